/- Rows of times and numbers (layer 13): the library's Index and Contains, and whether no two are the same. -/
import Derived.Test.YtcnpfchopjopeaaClsQ
namespace Go.Proofs.Ytcnpfchopjopeaa
open Go.RowKit
open Whn (Gr Wh)

theorem whEq_iff (x y : Wh) : whEq x y = true ↔ x = y := by
  unfold whEq
  rw [decide_eq_true_iff]
  constructor
  · rintro ⟨h1, h2, h3, h4⟩
    cases x; cases y
    simp only at h1 h2 h3 h4
    subst h1; subst h2; subst h3; subst h4
    rfl
  · rintro rfl; exact ⟨rfl, rfl, rfl, rfl⟩
theorem ifs_whe (x y : Wh) (X : World) : (if (x.w : Int) = (y.w : Int) then if (x.d : Int) = (y.d : Int) then if x.s = y.s then if x.l = y.l then Result.ok (Next.value (Value.bool true)) X else Result.ok (Next.value (Value.bool false)) X else Result.ok (Next.value (Value.bool false)) X else Result.ok (Next.value (Value.bool false)) X else Result.ok (Next.value (Value.bool false)) X) = Result.ok (Next.value (Value.bool (whEq x y))) X := by
  have h1 : ((x.w : Int) = (y.w : Int)) = (x.w = y.w) := propext ⟨fun h => by omega, fun h => by omega⟩
  have h2 : ((x.d : Int) = (y.d : Int)) = (x.d = y.d) := propext ⟨fun h => by omega, fun h => by omega⟩
  simp only [h1, h2]
  unfold whEq
  by_cases a1 : x.w = y.w
  · by_cases a2 : x.d = y.d
    · by_cases a3 : x.s = y.s
      · by_cases a4 : x.l = y.l
        · simp [a1, a2, a3, a4]
        · simp [a1, a2, a3, a4]
      · simp [a1, a2, a3]
    · simp [a1, a2]
  · simp [a1]
theorem own_whs {w : World} {base : Nat} {v : Value} {l : List Wh} (h : w.ownsRow base 46 4 v l.length (wcells l)) : ∃ A c, v = .slice A l.length c ∧ Whs w w.heap.size A l ∧ l.length ≤ c := by
  rcases h.2 with ⟨rfl, h0⟩ | ⟨g, cap, cur, rfl, hb', hg, hn, _⟩
  · have h1 : l = [] := List.eq_nil_of_length_eq_zero h0
    subst h1
    exact ⟨none, 0, rfl, Rd.none_ _ _ _, Nat.le_refl _⟩
  · exact ⟨some ⟨g, 0, none⟩, cap, rfl, fun _ => ⟨_, rfl, (Array.getElem?_eq_some_iff.1 hg).1, fun k l hk => h.cells rfl k _ hk⟩, hn⟩
theorem wlit_get (w : World) (x : Wh) (t : TypeId) : ∀ (j : Nat) (u : Value), (wc x)[j]? = some u → (w.alloc (.cells (wc x).toArray t)).cell? ((⟨w.heap.size, 0, none⟩ : Addr).add j) = some u := fun j u hu => by
  have h := (Ob.new w (wc x) t).cell hu
  rcases Nat.eq_zero_or_pos j with rfl | hj
  · exact h
  · rw [show ((⟨w.heap.size, 0, none⟩ : Addr).add j) = ⟨w.heap.size, j, none⟩ by unfold Addr.add; simp; omega]
    exact h
theorem wc_one (x : Wh) : ∀ u ∈ wc x, u.oneCell' = true := fun u hu => by
  simp only [wc, List.mem_cons, List.not_mem_nil, or_false] at hu
  rcases hu with rfl | rfl | rfl | rfl <;> rfl
theorem wcells_snoc (l : List Wh) (x : Wh) : wcells (l ++ [x]) = wcells l ++ wc x := by rw [wcells_append]; rfl
theorem Try.info_when : (Try.prog.info? 46).map (fun i => (i.zero, i.size, i.bytes)) = some (some (.agg #[.int .u32 0, .int .u8 0, .int .i64 0, .int .i64 0]), 4, 24) := by kernel_rfl
/-- the first place of a time in a row, or -1 -/
def IxAt (l : List Wh) (x : Wh) (z : Int) : Prop := (z = -1 ∧ x ∉ l) ∨ ∃ k : Nat, z = (k : Int) ∧ k < l.length ∧ l[k]? = some x ∧ ∀ y ∈ l.take k, y ≠ x
def IxRet (l : List Wh) (x : Wh) (w : World) (e : Ending) (w' : World) : Prop := ∃ z, e = .returned (.int .i64 z) ∧ IxAt l x z ∧ Below w.heap.size w w'
set_option maxRecDepth 4000 in
set_option maxHeartbeats 1000000 in
theorem p_Index (A : Option Addr) (c : Nat) (l : List Wh) (hm : l.length ≤ maxLen) (x : Wh) (w : World) (h : Whs w w.heap.size A l) :
    Calls Try.prog 62 #[.slice A l.length c, wv x] w (IxRet l x w) := by
  unfold maxLen at hm
  have H := hid h
  clear h
  obtain ⟨G, V, hG, hV, K, hb0⟩ := (Mem.nil w).one (wc x) 46
  go_enter Try.func62, Try.ntmps62
  go_wp2
  go_loopw [8] (fun i wr => ∃ (k : Nat), i = .int .i64 k ∧ k ≤ l.length ∧ Hid (Mem w wr [(G, wc x, 46)]) ∧ Hid (∀ y ∈ l.take k, y ≠ x)) (fun i _ => l.length - (intOf i).toNat)
  case atStart => exact ⟨0, rfl, Nat.zero_le _, K, hid (fun y hy => by simp at hy)⟩
  case round =>
    clear K
    obtain ⟨k, rfl, hk, K1, hsame⟩ := hrel
    by_cases hlt : k < l.length
    · obtain ⟨ad, y, rfl, had, hx, hxl⟩ := whs_ad H.out hlt
      have b1 : (0 : Int) ≤ (k : Int) := by omega
      have b2 : (k : Int) < l.length := by omega
      go_wp2_with fail
      · refine wp_region_held_drew (S := fun X => Mem w X [(G, wc x, 46)]) (by kernel_rfl) K1.out.drew (fun hHeld => ?_)
        refine takeH 0 11 (wv x) rfl rfl (by kernel_rfl) (by kernel_rfl) (by kernel_rfl) (fun _ _ _ h => h) (by kernel_rfl) (fun X hX => by obtain ⟨c0, c1, c2, c3⟩ := hX.wh (B := G) (x := x) (by simp); clear hX; go_simp) hHeld ?_
        simp only [Act.put, List.setIfInBounds_toArray, List.set_cons_zero, List.set_cons_succ]
        refine takeH 1 12 (.slice (some ad) l.length c) rfl rfl (by kernel_rfl) (by kernel_rfl) (by kernel_rfl) (fun _ _ _ h => h) (by kernel_rfl) (fun X hX => by clear hX; first | rfl | go_simp) hHeld ?_
        simp only [Act.put, List.setIfInBounds_toArray, List.set_cons_zero, List.set_cons_succ]
        refine takeH 2 13 (.int .i64 k) rfl rfl (by kernel_rfl) (by kernel_rfl) (by kernel_rfl) (fun _ _ _ h => h) (by kernel_rfl) (fun X hX => by clear hX; first | rfl | go_simp) hHeld ?_
        simp only [Act.put, List.setIfInBounds_toArray, List.set_cons_zero, List.set_cons_succ]
        refine takeH 3 14 (.pointer (some (ad.add (k * 4)))) rfl rfl (by kernel_rfl) (by kernel_rfl) (by kernel_rfl) (fun _ _ _ h => h) (by kernel_rfl) (fun X hX => by clear hX; go_simp) hHeld ?_
        simp only [Act.put, List.setIfInBounds_toArray, List.set_cons_zero, List.set_cons_succ]
        refine takeH 4 15 (wv y) rfl rfl (by kernel_rfl) (by kernel_rfl) (by kernel_rfl) (fun _ _ _ h => h) (by kernel_rfl) (fun X hX => by obtain ⟨c0, c1, c2, c3⟩ := whs_at (H.out.below hX.2 (Nat.le_refl _)) hx.out; clear hX; go_simp) hHeld ?_
        simp only [Act.put, List.setIfInBounds_toArray, List.set_cons_zero, List.set_cons_succ]
        refine takeH 5 16 (.bool (whEq x y)) rfl rfl (by kernel_rfl) (by kernel_rfl) (by kernel_rfl) (fun _ _ _ h => h) (by kernel_rfl) (fun X hX => by clear hX; go_simp; exact ifs_whe x y X) hHeld ?_
        simp only [Act.put, List.setIfInBounds_toArray, List.set_cons_zero, List.set_cons_succ]
        refine wpAnyH_done (by kernel_rfl) ?_ _
        have K3 := hid (K1.out.drew.drew)
        cases hR : whEq x y with
        | true =>
          obtain rfl := (whEq_iff x y).1 hR
          go_wp2_with fail
          go_ret
          exact ⟨k, rfl, .inr ⟨k, rfl, hlt, hx.out, hsame.out⟩, K1.out.drew.2⟩
        | false =>
          have hne := hid (show y ≠ x from fun e => by
            rw [(whEq_iff x y).2 e.symm] at hR
            cases hR)
          clear hR
          go_wp2_with fail
          refine ⟨⟨k + 1, by go_num, by omega, hid K1.out.drew, ?_⟩, by simp [intOf]; omega⟩
          refine hid (fun z hz => ?_)
          rw [List.take_add_one, hx.out, List.mem_append] at hz
          rcases hz with hz | hz
          · exact hsame.out z hz
          · simp at hz
            rw [hz]; exact hne.out
    · have hall := hid (show x ∉ l from fun hx => hsame.out x (by rw [List.take_of_length_le (by omega)]; exact hx) rfl)
      have b2 : ¬ (k : Int) < l.length := by omega
      go_wp2_with fail
      go_ret
      exact ⟨-1, rfl, .inl ⟨rfl, hall.out⟩, K1.out.2⟩
/-- hands out whether it is so -/
def IxS (P : Prop) (w : World) (e : Ending) (w' : World) : Prop := ∃ z, e = .returned (.int .i64 z) ∧ (0 ≤ z ↔ P) ∧ Below w.heap.size w w'
def CtRet (P : Prop) (w : World) (e : Ending) (w' : World) : Prop := ∃ b, e = .returned (.bool b) ∧ (b = true ↔ P) ∧ Below w.heap.size w w'
theorem IxRet.s {l : List Wh} {x : Wh} {w w' : World} {e : Ending} (h : IxRet l x w e w') : IxS (x ∈ l) w e w' := by
  obtain ⟨z, he, hz, hb⟩ := h
  refine ⟨z, he, ?_, hb⟩
  rcases hz with ⟨rfl, hn⟩ | ⟨k, rfl, hk, hx, _⟩
  · exact ⟨fun h => absurd h (by decide), fun h => absurd h hn⟩
  · exact ⟨fun _ => List.mem_of_getElem? hx, fun _ => by omega⟩
set_option maxRecDepth 4000 in
theorem p_ContW (A : Option Addr) (n c : Nat) (l : List Wh) (hn : l.length = n) (hm : l.length ≤ maxLen) (x : Wh) (w : World) (h : Whs w w.heap.size A l) :
    Calls Try.prog 59 #[.slice A n c, wv x] w (CtRet (x ∈ l) w) := by
  subst hn
  have HI := hid (fun X h => (p_Index A c l hm x X h).mono fun _ _ h => IxRet.s h)
  obtain ⟨D, V, hD, hV, K, hb0⟩ := (Mem.nil w).one (wc x) 46
  obtain ⟨c0, c1, c2, c3⟩ := K.out.wh (B := D) (x := x) (by simp)
  have H := hid ((h.below K.out.2 (Nat.le_refl _)).more K.out.2.size)
  clear h
  go_enter Try.func59, Try.ntmps59
  go_wp2_with fail
  refine (HI.out _ H.out).mono ?_
  rintro e w1 ⟨z, rfl, hz, b1⟩
  have Hz := hid hz
  have K2 := hid (K.out.next b1)
  clear hz
  go_wp2_with fail
  go_ret
  exact ⟨_, rfl, by rw [decide_eq_true_iff]; exact Hz.out, K2.out.2⟩
set_option maxRecDepth 4000 in
set_option maxHeartbeats 1000000 in
theorem p_IndexI (A : Option Addr) (c : Nat) (l : List Int) (hm : l.length ≤ maxLen) (x : Int) (w : World) (h : Its w w.heap.size A l) :
    Calls Try.prog 63 #[.slice A l.length c, .int .i64 x] w (IxS (x ∈ l) w) := by
  unfold maxLen at hm
  have H := hid h
  clear h
  go_enter Try.func63, Try.ntmps63
  go_wp2
  go_loopw [8] (fun i wr => ∃ (k : Nat), i = .int .i64 k ∧ k ≤ l.length ∧ w = wr ∧ Hid (∀ y ∈ l.take k, y ≠ x)) (fun i _ => l.length - (intOf i).toNat)
  case atStart => exact ⟨0, rfl, Nat.zero_le _, rfl, hid (fun y hy => by simp at hy)⟩
  case round =>
    obtain ⟨k, rfl, hk, rfl, hsame⟩ := hrel
    by_cases hlt : k < l.length
    · obtain ⟨ad, y, rfl, had, hx, hcy⟩ := Its.get H.out hlt
      have b1 : (0 : Int) ≤ (k : Int) := by omega
      have b2 : (k : Int) < l.length := by omega
      by_cases hxy : x = y
      · have q1 : (x == y) = true := by rw [beq_iff_eq]; exact hxy
        have Hxy := hid hxy
        clear hxy
        go_wp2_with fail
        go_ret
        exact ⟨k, rfl, ⟨fun _ => by rw [Hxy.out]; exact List.mem_of_getElem? hx.out, fun _ => by omega⟩, Below.refl _ _⟩
      · have q1 : (x == y) = false := by rw [beq_eq_false_iff_ne]; exact hxy
        have hne := hid (fun (e : y = x) => hxy e.symm)
        clear hxy
        go_wp2_with fail
        refine ⟨⟨k + 1, by go_num, by omega, trivial, ?_⟩, by simp [intOf]; omega⟩
        refine hid (fun z hz => ?_)
        rw [List.take_add_one, hx.out, List.mem_append] at hz
        rcases hz with hz | hz
        · exact hsame.out z hz
        · simp at hz
          rw [hz]; exact hne.out
    · have hall := hid (show x ∉ l from fun hx => hsame.out x (by rw [List.take_of_length_le (by omega)]; exact hx) rfl)
      have b2 : ¬ (k : Int) < l.length := by omega
      go_wp2_with fail
      go_ret
      exact ⟨-1, rfl, ⟨fun h => absurd h (by decide), fun h => absurd h hall.out⟩, Below.refl _ _⟩
set_option maxRecDepth 4000 in
theorem p_ContI (A : Option Addr) (n c : Nat) (l : List Int) (hn : l.length = n) (hm : l.length ≤ maxLen) (x : Int) (w : World) (h : Its w w.heap.size A l) :
    Calls Try.prog 60 #[.slice A n c, .int .i64 x] w (CtRet (x ∈ l) w) := by
  subst hn
  have HI := hid (p_IndexI A c l hm x w h)
  clear h
  go_enter Try.func60, Try.ntmps60
  go_wp2_with fail
  refine (HI.out).mono ?_
  rintro e w1 ⟨z, rfl, hz, b1⟩
  have Hz := hid hz
  clear hz
  go_wp2_with fail
  go_ret
  exact ⟨_, rfl, by rw [decide_eq_true_iff]; exact Hz.out, b1⟩
/-- no two are the same -/
def Once {α : Type} (l : List α) : Prop := ∀ (i : Nat) (x : α), l[i]? = some x → x ∉ l.take i
theorem once_no {α : Type} {l : List α} {k : Nat} {x : α} (hx : l[k]? = some x) (h : x ∈ l.take k) : ¬ Once l := fun H => H k x hx h
theorem once_yes {α : Type} {l : List α} (h : ∀ i, i < l.length → ∀ x, l[i]? = some x → x ∉ l.take i) : Once l := fun i x hx => h i (List.getElem?_eq_some_iff.1 hx).1 x hx
theorem once_next {α : Type} {l : List α} {k : Nat} {x : α} (hx : l[k]? = some x) (h : ∀ i, i < k → ∀ x, l[i]? = some x → x ∉ l.take i) (hn : x ∉ l.take k) : ∀ i, i < k + 1 → ∀ x, l[i]? = some x → x ∉ l.take i := fun i hi y hy => by
  rcases Nat.lt_or_ge i k with h' | h'
  · exact h i h' y hy
  · obtain rfl : i = k := by omega
    rw [hx] at hy
    rw [← Option.some.inj hy]; exact hn
theorem its_take {w : World} {B : Nat} {A : Option Addr} {l : List Int} (h : Its w B A l) (k : Nat) : Its w B A (l.take k) := fun hn => by
  obtain ⟨ad, e, hb, hc⟩ := h (fun e => hn (by rw [List.map_take, e, List.take_nil]))
  refine ⟨ad, e, hb, fun j v hv => hc j v ?_⟩
  rw [List.map_take, List.getElem?_take] at hv
  split at hv
  · exact hv
  · cases hv
theorem whs_take {w : World} {B : Nat} {A : Option Addr} {l : List Wh} (h : Whs w B A l) (k : Nat) : Whs w B A (l.take k) := fun hn => by
  have e1 : wcells l = wcells (l.take k) ++ wcells (l.drop k) := by rw [← wcells_append, List.take_append_drop]
  obtain ⟨ad, e, hb, hc⟩ := h (fun e => hn (by rw [e] at e1; exact (List.append_eq_nil_iff.1 e1.symm).1))
  refine ⟨ad, e, hb, fun j v hv => hc j v ?_⟩
  rw [e1, List.getElem?_append_left (List.getElem?_eq_some_iff.1 hv).1]
  exact hv
set_option maxRecDepth 4000 in
set_option maxHeartbeats 2000000 in
theorem p_OnceI (A : Option Addr) (c : Nat) (l : List Int) (hm : l.length ≤ maxLen) (hc : l.length ≤ c) (w : World) (h : Its w w.heap.size A l) :
    Calls Try.prog 52 #[.slice A l.length c] w (CtRet (Once l) w) := by
  have HC := hid (fun (k : Nat) (hk : k ≤ l.length) x X (h : Its X X.heap.size A l) => p_ContI A k c (l.take k) (by rw [List.length_take]; omega) (by rw [List.length_take]; omega) x X (its_take h k))
  unfold maxLen at hm
  have H := hid h
  clear h
  go_enter Try.func52, Try.ntmps52
  go_wp2_with fail
  go_loopw [7] (fun i wr => ∃ (k : Nat), i = .int .i64 k ∧ k ≤ l.length ∧ Hid (Below w.heap.size w wr) ∧ Hid (∀ i, i < k → ∀ x, l[i]? = some x → x ∉ l.take i)) (fun i _ => l.length - (intOf i).toNat)
  case atStart => exact ⟨0, rfl, Nat.zero_le _, hid (Below.refl _ _), hid (fun i hi => absurd hi (Nat.not_lt_zero i))⟩
  case round =>
    obtain ⟨k, rfl, hk, KB, hsame⟩ := hrel
    have H1 := hid ((H.out.below KB.out (Nat.le_refl _)).more KB.out.size)
    by_cases hlt : k < l.length
    · have HC1 := hid (fun x X h => HC.out k (by omega) x X h)
      obtain ⟨ad, y, rfl, had, hx, hcy⟩ := Its.get H1.out hlt
      have b1 : (0 : Int) ≤ (k : Int) := by omega
      have b2 : (k : Int) < l.length := by omega
      have b3 : (k : Int) ≤ (c : Int) := by omega
      clear HC
      go_wp2_with fail
      refine (HC1.out y _ H1.out).mono ?_
      rintro e w1 ⟨b, rfl, hb, bb⟩
      have KB2 := hid (KB.out.trans (bb.mono KB.out.size))
      cases b with
      | true =>
        have hno := hid (once_no hx.out (hb.1 rfl))
        clear hb
        go_wp2_with fail
        go_ret
        exact ⟨false, rfl, ⟨fun h => (nomatch h), fun h => absurd h hno.out⟩, KB2.out⟩
      | false =>
        have hn := hid (once_next hx.out hsame.out (fun h => by have := hb.2 h; cases this))
        clear hb hsame
        go_wp2_with fail
        exact ⟨⟨k + 1, by go_num, by omega, KB2, hn⟩, by simp [intOf]; omega⟩
    · have hall := hid (once_yes (fun i hi => hsame.out i (by omega)))
      have b2 : ¬ (k : Int) < l.length := by omega
      go_wp2_with fail
      go_ret
      exact ⟨true, rfl, ⟨fun _ => hall.out, fun _ => rfl⟩, KB.out⟩
set_option maxRecDepth 4000 in
set_option maxHeartbeats 2000000 in
theorem p_OnceW (A : Option Addr) (c : Nat) (l : List Wh) (hm : l.length ≤ maxLen) (hc : l.length ≤ c) (w : World) (h : Whs w w.heap.size A l) :
    Calls Try.prog 51 #[.slice A l.length c] w (CtRet (Once l) w) := by
  have HC := hid (fun (k : Nat) (hk : k ≤ l.length) x X (h : Whs X X.heap.size A l) => p_ContW A k c (l.take k) (by rw [List.length_take]; omega) (by rw [List.length_take]; omega) x X (whs_take h k))
  unfold maxLen at hm
  have H := hid h
  clear h
  go_enter Try.func51, Try.ntmps51
  go_wp2_with fail
  go_loopw [7] (fun i wr => ∃ (k : Nat), i = .int .i64 k ∧ k ≤ l.length ∧ Hid (Mem w wr []) ∧ Hid (∀ i, i < k → ∀ x, l[i]? = some x → x ∉ l.take i)) (fun i _ => l.length - (intOf i).toNat)
  case atStart => exact ⟨0, rfl, Nat.zero_le _, hid (Mem.nil w), hid (fun i hi => absurd hi (Nat.not_lt_zero i))⟩
  case round =>
    obtain ⟨k, rfl, hk, KB, hsame⟩ := hrel
    by_cases hlt : k < l.length
    · have HC1 := hid (fun x X h => HC.out k (by omega) x X h)
      obtain ⟨ad, y, rfl, had, hx, hxl⟩ := whs_ad H.out hlt
      have b1 : (0 : Int) ≤ (k : Int) := by omega
      have b2 : (k : Int) < l.length := by omega
      have b3 : (k : Int) ≤ (c : Int) := by omega
      obtain ⟨d0, d1, d2, d3⟩ := whs_at (H.out.below KB.out.2 (Nat.le_refl _)) hx.out
      obtain ⟨D, U, hD, hU, K2, hb2⟩ := KB.out.one (wc y) 46
      obtain ⟨c0, c1, c2, c3⟩ := K2.out.wh (B := D) (x := y) (by simp)
      clear HC
      go_wp2_with fail
      refine wp_region_held_drew (S := fun X => Mem w X [(D, wc y, 46)]) (by kernel_rfl) K2.out.drew (fun hHeld => ?_)
      refine takeH 0 12 (.slice (some ad) l.length c) rfl rfl (by kernel_rfl) (by kernel_rfl) (by kernel_rfl) (fun _ _ _ h => h) (by kernel_rfl) (fun X hX => by clear hX; first | rfl | go_simp) hHeld ?_
      simp only [Act.put, List.setIfInBounds_toArray, List.set_cons_zero, List.set_cons_succ]
      refine takeH 1 13 (.int .i64 k) rfl rfl (by kernel_rfl) (by kernel_rfl) (by kernel_rfl) (fun _ _ _ h => h) (by kernel_rfl) (fun X hX => by clear hX; first | rfl | go_simp) hHeld ?_
      simp only [Act.put, List.setIfInBounds_toArray, List.set_cons_zero, List.set_cons_succ]
      refine takeH 2 14 (.slice (some ad) k c) rfl rfl (by kernel_rfl) (by kernel_rfl) (by kernel_rfl) (fun _ _ _ h => h) (by kernel_rfl) (fun X hX => by clear hX; go_simp) hHeld ?_
      simp only [Act.put, List.setIfInBounds_toArray, List.set_cons_zero, List.set_cons_succ]
      refine takeH 3 15 (wv y) rfl rfl (by kernel_rfl) (by kernel_rfl) (by kernel_rfl) (fun _ _ _ h => h) (by kernel_rfl) (fun X hX => by obtain ⟨c0, c1, c2, c3⟩ := hX.wh (B := D) (x := y) (by simp); clear hX; go_simp) hHeld ?_
      simp only [Act.put, List.setIfInBounds_toArray, List.set_cons_zero, List.set_cons_succ]
      refine wpAnyH_ready (rs := [4]) (by kernel_rfl) (by simp) ?_
      refine AllReadyH.cons rfl (fun KK hK => ?_) AllReadyH.nil
      simp only [List.getElem_toArray, List.getElem_cons_succ, List.getElem_cons_zero]
      go_simp
      have H1 := (H.out.below K2.out.drew.2 (Nat.le_refl _)).more K2.out.drew.2.size
      refine (HC1.out y _ H1).mono ?_
      rintro e w1 ⟨b, rfl, hb, bb⟩
      have K3 := K2.out.drew.next bb
      refine hK.out _ _ K3 (fun hHeld => ?_)
      clear hK KK
      try simp only [Act.put, List.setIfInBounds_toArray, List.set_cons_zero, List.set_cons_succ]
      refine wpAnyH_done (by kernel_rfl) ?_ _
      have K4 := hid (K3.sub (l' := []) (by intro p hp; cases hp))
      clear K3 hHeld H1 bb K2
      cases b with
      | true =>
        have hno := hid (once_no hx.out (hb.1 rfl))
        clear hb
        go_wp2_with fail
        go_ret
        exact ⟨false, rfl, ⟨fun h => (nomatch h), fun h => absurd h hno.out⟩, K4.out.2⟩
      | false =>
        have hn := hid (once_next hx.out hsame.out (fun h => by have := hb.2 h; cases this))
        clear hb hsame
        go_wp2_with fail
        exact ⟨⟨k + 1, by go_num, by omega, K4, hn⟩, by simp [intOf]; omega⟩
    · have hall := hid (once_yes (fun i hi => hsame.out i (by omega)))
      have b2 : ¬ (k : Int) < l.length := by omega
      go_wp2_with fail
      go_ret
      exact ⟨true, rfl, ⟨fun _ => hall.out, fun _ => rfl⟩, KB.out.2⟩
end Go.Proofs.Ytcnpfchopjopeaa
