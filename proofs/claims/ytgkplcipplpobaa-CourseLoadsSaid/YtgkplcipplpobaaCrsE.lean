/- The document's own Insert for layer 14 (course). -/
import Derived.Test.YtgkplcipplpobaaCrsD
namespace Go.Proofs.Ytgkplcipplpobaa
open Go.RowKit
open Whn (Gr Wh)
set_option linter.unusedSimpArgs false

theorem its_takeN {w : World} {B : Nat} {A : Option Addr} {l : List Int} (h : Its w B A l) (k : Nat) : Its w B A (l.take k) := fun hn => by
  obtain ⟨ad, e, hb, hc⟩ := h (fun e => hn (by rw [List.map_take, e, List.take_nil]))
  refine ⟨ad, e, hb, fun j v hv => hc j v ?_⟩
  rw [List.map_take, List.getElem?_take] at hv
  split at hv
  · exact hv
  · cases hv
theorem its_dropN {w : World} {B : Nat} {ad : Addr} {l : List Int} (h : Its w B (some ad) l) (k : Nat) {A' : Option Addr} (hA : k < l.length → A' = some (ad.add k)) : Its w B A' (l.drop k) := fun hn => by
  have hk : k < l.length := by
    rcases Nat.lt_or_ge k l.length with h | h
    · exact h
    · exact absurd (by rw [List.drop_eq_nil_of_le h]; rfl) hn
  obtain ⟨ad', e, hb, hc⟩ := h (fun e => by rw [List.map_eq_nil_iff] at e; rw [e] at hk; exact absurd hk (Nat.not_lt_zero _))
  injection e with e
  subst e
  refine ⟨_, hA hk, by rw [add_block]; exact hb, fun j v hv => ?_⟩
  rw [Addr.add_add]
  refine hc _ _ ?_
  rwa [List.map_drop, List.getElem?_drop] at hv
/-- hands out a rising row: what there was, and n -/
def InsRet (l : List Int) (n : Int) (w : World) (e : Ending) (w' : World) : Prop := ∃ A c, ∃ m : List Int, e = .returned (.slice A m.length c) ∧ Its w' w'.heap.size A m ∧ m.length ≤ c ∧ m.Pairwise (· < ·) ∧ (∀ z, z ∈ m ↔ z = n ∨ z ∈ l) ∧ m.length ≤ l.length + 1 ∧ Below w.heap.size w w'
theorem ins_ris {l : List Int} {n : Int} {k : Nat} (hp : l.Pairwise (· < ·)) (hn : n ∉ l) (h1 : ∀ j y, j < k → l[j]? = some y → y < n) (h2 : ∀ y, l[k]? = some y → ¬ y < n) : (l.take k ++ [n] ++ l.drop k).Pairwise (· < ·) ∧ ∀ z, z ∈ l.take k ++ [n] ++ l.drop k ↔ z = n ∨ z ∈ l := by
  have hlt : ∀ y ∈ l.take k, y < n := fun y hy => by
    obtain ⟨j, hj⟩ := List.mem_iff_getElem?.1 hy
    rw [List.getElem?_take] at hj
    split at hj
    · exact h1 j y (by assumption) hj
    · cases hj
  have hsp := List.pairwise_append.1 (by rw [List.take_append_drop]; exact hp : (l.take k ++ l.drop k).Pairwise (· < ·))
  have hgt : ∀ y ∈ l.drop k, n < y := fun y hy => by
    have hyl : y ∈ l := List.mem_of_mem_drop hy
    have hne : y ≠ n := fun e => hn (by rw [← e]; exact hyl)
    cases hd : l.drop k with
    | nil => rw [hd] at hy; cases hy
    | cons z r =>
      have hz : l[k]? = some z := by
        have : (l.drop k)[0]? = some z := by rw [hd]; rfl
        rwa [List.getElem?_drop, Nat.add_zero] at this
      have hzn := h2 z hz
      have hzl : z ∈ l := List.mem_of_getElem? hz
      have hze : z ≠ n := fun e => hn (by rw [← e]; exact hzl)
      rw [hd] at hy
      rcases List.mem_cons.1 hy with rfl | hy
      · omega
      · have := hsp.2.1
        rw [hd] at this
        have := (List.pairwise_cons.1 this).1 y hy
        omega
  constructor
  · rw [List.append_assoc, List.pairwise_append]
    refine ⟨hsp.1, ?_, fun a ha b hb => ?_⟩
    · rw [List.singleton_append, List.pairwise_cons]
      exact ⟨hgt, hsp.2.1⟩
    · rcases List.mem_append.1 hb with hb | hb
      · rw [List.mem_singleton] at hb
        rw [hb]; exact hlt a ha
      · exact hsp.2.2 a ha b hb
  · intro z
    rw [List.mem_append, List.mem_append, List.mem_singleton]
    have : z ∈ l ↔ z ∈ l.take k ∨ z ∈ l.drop k := by
      rw [← List.mem_append, List.take_append_drop]
    rw [this]
    constructor
    · rintro ((h | h) | h)
      · exact .inr (.inl h)
      · exact .inl h
      · exact .inr (.inr h)
    · rintro (h | h | h)
      · exact .inl (.inr h)
      · exact .inl (.inl h)
      · exact .inr h
theorem ob_grown {W W' : World} {b g : Nat} {cs : List Value} {t : TypeId} (h : Ob W b cs t) (hg : W.grownBy W' (some g)) (hne : g ≠ b) : Ob W' b cs t := (hg.block b h.lt (fun e => hne (Option.some.inj e).symm)).trans h
theorem src_ob {P : Program} {X : World} {e' tx t : TypeId} (hk : P.underlying tx = some (.slice e')) {b : Nat} {n : Int} (h : Ob X b [.int .i64 n] t) : Src P 1 tx (.slice (some ⟨b, 0, none⟩) 1 1) 1 [Value.int .i64 n] X :=
  Src.ofSlice X hk ⟨b, 0, none⟩ 1 1 [Value.int .i64 n] rfl (fun j u hu => by
    have hj : j = 0 := by
      have := (List.getElem?_eq_some_iff.1 hu).1
      simp only [List.length_cons, List.length_nil] at this
      omega
    subst hj
    exact h.cell hu) (int_one .i64 n)
theorem InsRet.mk {l m : List Int} {n : Int} {w w' : World} {base k : Nat} {v : Value} (h : w'.ownsRow base 3 1 v k (m.map (Value.int .i64))) (hk : k = m.length) (hp : m.Pairwise (· < ·)) (hz : ∀ z, z ∈ m ↔ z = n ∨ z ∈ l) (hl : m.length ≤ l.length + 1) (hb : Below w.heap.size w w') : InsRet l n w (.returned v) w' := by
  subst hk
  obtain ⟨A, c, rfl, hr, hc⟩ := own_rd h
  exact ⟨A, c, m, rfl, hr, hc, hp, hz, hl, hb⟩
set_option maxRecDepth 20000 in
set_option maxHeartbeats 8000000 in
theorem r_Insert (A : Option Addr) (c : Nat) (l : List Int) (hm : l.length ≤ 1000000) (hc : l.length ≤ c) (hp : l.Pairwise (· < ·)) (n : Int) (w : World) (h : Its w w.heap.size A l) :
    Calls Try.prog 37 #[.slice A l.length c, .int .i64 n] w (InsRet l n w) := by
  have HH := hid (r_Has A l.length c l rfl (by unfold maxLen; omega) n w w.heap.size h)
  have H := hid h
  obtain ⟨i0, hi0, hz0, hz1, hz2⟩ := info_parts Try.info_int14
  cases hR : decide (n ∈ l) with
  | true =>
    rw [hR] at HH
    have Hmem := hid (of_decide_eq_true hR)
    clear hR h
    go_enter Try.func37, Try.ntmps37
    go_wp2_with fail
    refine (HH.out).mono ?_
    rintro e w1 ⟨rfl, rfl⟩
    go_wp2_with fail
    go_ret
    exact ⟨A, c, l, rfl, H.out, hc, hp, fun z => ⟨fun h => .inr h, fun h => by rcases h with rfl | h; exact Hmem.out; exact h⟩, by omega, Below.refl _ _⟩
  | false =>
    rw [hR] at HH
    have Hnm := hid (of_decide_eq_false hR)
    have HI := hid (fun (k : Nat) (h1 : ∀ j y, j < k → l[j]? = some y → y < n) (h2 : ∀ y, l[k]? = some y → n ≤ y) => ins_ris (k := k) hp Hnm.out h1 (fun y hy hh => absurd (h2 y hy) (by omega)))
    clear hR h hp
    go_enter Try.func37, Try.ntmps37
    go_wp2_with fail
    refine (HH.out).mono ?_
    rintro e w1 ⟨rfl, rfl⟩
    go_wp2_with fail
    go_loopw [5] (fun i wr => ∃ (k : Nat), i = .int .i64 k ∧ k ≤ l.length ∧ w = wr ∧ Hid (∀ j y, j < k → l[j]? = some y → y < n)) (fun i _ => l.length - (intOf i).toNat)
    case atStart => exact ⟨0, rfl, Nat.zero_le _, rfl, hid (fun j y hj => absurd hj (Nat.not_lt_zero j))⟩
    case round =>
      obtain ⟨k, rfl, hk, rfl, hsame⟩ := hrel
      have b1 : (0 : Int) ≤ (k : Int) := by omega
      by_cases hend : ∃ y, l[k]? = some y ∧ y < n
      · obtain ⟨y, hy, hyn⟩ := hend
        have hlt : k < l.length := (List.getElem?_eq_some_iff.1 hy).1
        obtain ⟨ad, y', rfl, _, hy', hcy⟩ := Its.get H.out hlt
        have e1 := hy'.out
        rw [hy] at e1
        obtain rfl := Option.some.inj e1
        have b2 : (k : Int) < l.length := by omega
        have hn := hid (show ∀ j z, j < k + 1 → l[j]? = some z → z < n from fun j z hj hz => by
          rcases Nat.lt_or_ge j k with h' | h'
          · exact hsame.out j z h' hz
          · obtain rfl : j = k := by omega
            rw [hy] at hz
            rw [← Option.some.inj hz]; exact hyn)
        clear e1 hsame hy hy' HI Hnm HH
        go_wp2_with fail
        exact ⟨⟨k + 1, by go_num, by omega, trivial, hn⟩, by simp [intOf]; omega⟩
      · have hstop : ∀ y, l[k]? = some y → n ≤ y := fun y hy => by
          rcases Int.lt_or_le y n with hyn | hyn
          · exact absurd ⟨y, hy, hyn⟩ hend
          · exact hyn
        obtain ⟨hP, hZ⟩ := HI.out k hsame.out hstop
        have HP := hid hP
        have HZ := hid hZ
        have Hml := hid (show (l.take k ++ [n] ++ l.drop k).length = l.length + 1 by rw [List.length_append, List.length_append, List.length_take, List.length_drop, List.length_singleton]; omega)
        have Hcells := hid (show (l.take k ++ [n] ++ l.drop k).map (Value.int .i64) = [] ++ (l.take k).map (Value.int .i64) ++ [Value.int .i64 n] ++ (l.drop k).map (Value.int .i64) by rw [List.map_append, List.map_append, List.nil_append]; rfl)
        have q1 : 0 + k ≤ maxLen := by unfold maxLen; omega
        have q2 : (0 + k) * 8 ≤ 140737488355328 := by omega
        have q3 : 0 + k + 1 ≤ maxLen := by unfold maxLen; omega
        have q4 : (0 + k + 1) * 8 ≤ 140737488355328 := by omega
        have q5 : 0 + k + 1 + (l.length - k) ≤ maxLen := by unfold maxLen; omega
        have q6 : (0 + k + 1 + (l.length - k)) * 8 ≤ 140737488355328 := by omega
        have i3 : (k : Int) ≤ (l.length : Int) := by omega
        have i4 : (k : Int) ≤ (c : Int) := by omega
        have hS1 := hid (fun X (hX : Below w.heap.size w X) => src_its (P := Try.prog) X Try.underlying29 (c := c) (by rw [List.length_take]; omega : (l.take k).length = k) (its_takeN (H.out.below hX (Nat.le_refl _)) k))
        cases A with
        | none =>
          have hl0 : l = [] := by
            rcases List.eq_nil_or_concat l with h | ⟨r, z, h⟩
            · exact h
            · obtain ⟨_, e, _⟩ := H.out (by rw [h]; simp)
              cases e
          have b2 : ¬ (k : Int) < l.length := by rw [hl0]; show ¬ (k : Int) < 0; omega
          have HS2 := hid (fun X (hX : Below w.heap.size w X) => src_its (P := Try.prog) X Try.underlying29 (c := c - k) (List.length_drop : (l.drop k).length = l.length - k) (show Its X w.heap.size none (l.drop k) from by rw [hl0, List.drop_nil]; exact Rd.none_ _ _ _))
          clear hsame hstop hP hZ HH Hnm HI hend hl0
          go_wp2_with fail
          refine wp_region_held_drew (S := fun X => Below w.heap.size w X) (by kernel_rfl) (Below.refl _ w).drew (fun hHeld => ?_)
          refine takeH 1 25 (.slice none l.length c) rfl rfl (by kernel_rfl) (by kernel_rfl) (by kernel_rfl) (fun _ _ _ h => h) (by kernel_rfl) (fun X hX => by clear hX; first | rfl | go_simp) hHeld ?_
          simp only [Act.put, List.setIfInBounds_toArray, List.set_cons_zero, List.set_cons_succ]
          refine takeH 2 26 (.int .i64 (k : Int)) rfl rfl (by kernel_rfl) (by kernel_rfl) (by kernel_rfl) (fun _ _ _ h => h) (by kernel_rfl) (fun X hX => by clear hX; first | rfl | go_simp) hHeld ?_
          simp only [Act.put, List.setIfInBounds_toArray, List.set_cons_zero, List.set_cons_succ]
          refine takeH 3 27 (.slice none k c) rfl rfl (by kernel_rfl) (by kernel_rfl) (by kernel_rfl) (fun _ _ _ h => h) (by kernel_rfl) (fun X hX => by clear hX; go_simp; try (intro h; omega)) hHeld ?_
          simp only [Act.put, List.setIfInBounds_toArray, List.set_cons_zero, List.set_cons_succ]
          refine takeH 5 29 (.int .i64 n) rfl rfl (by kernel_rfl) (by kernel_rfl) (by kernel_rfl) (fun _ _ _ h => h) (by kernel_rfl) (fun X hX => by clear hX; first | rfl | go_simp) hHeld ?_
          simp only [Act.put, List.setIfInBounds_toArray, List.set_cons_zero, List.set_cons_succ]
          refine takeH 8 32 (.slice none l.length c) rfl rfl (by kernel_rfl) (by kernel_rfl) (by kernel_rfl) (fun _ _ _ h => h) (by kernel_rfl) (fun X hX => by clear hX; first | rfl | go_simp) hHeld ?_
          simp only [Act.put, List.setIfInBounds_toArray, List.set_cons_zero, List.set_cons_succ]
          refine takeH 9 33 (.int .i64 (k : Int)) rfl rfl (by kernel_rfl) (by kernel_rfl) (by kernel_rfl) (fun _ _ _ h => h) (by kernel_rfl) (fun X hX => by clear hX; first | rfl | go_simp) hHeld ?_
          simp only [Act.put, List.setIfInBounds_toArray, List.set_cons_zero, List.set_cons_succ]
          refine takeH 10 34 (.slice none (l.length - k) (c - k)) rfl rfl (by kernel_rfl) (by kernel_rfl) (by kernel_rfl) (fun _ _ _ h => h) (by kernel_rfl) (fun X hX => by clear hX; go_simp; try (intro h; omega)) hHeld ?_
          simp only [Act.put, List.setIfInBounds_toArray, List.set_cons_zero, List.set_cons_succ]
          have hd0 : Below w.heap.size w w.drew := (Below.refl _ w).drew
          refine wpAnyH_ready (rs := [0, 6]) (by kernel_rfl) (by simp) ?_
          refine (AllReadyH.cons rfl (fun KK hK => ?_) (AllReadyH.cons rfl (fun KK hK => ?_) AllReadyH.nil))
          · skip
            simp only [List.getElem_toArray, List.getElem_cons_succ, List.getElem_cons_zero]
            go_simp
            have hB0 := Below.alloc hd0 hd0.size (.cells #[] 3)
            have hL0 := World.ownsRow_lit (base := w.heap.size) (e := 3) (size := 1) w.drew #[] 0 hd0.size (by unfold maxLen; omega) rfl
            refine hK.out _ _ hB0 (fun hHeld => ?_)
            clear hK KK
            try simp only [Act.put, List.setIfInBounds_toArray, List.set_cons_zero, List.set_cons_succ]
            refine wpAnyH_ready (rs := [4, 6]) (by kernel_rfl) (by simp) ?_
            refine (AllReadyH.cons rfl (fun KK hK => ?_) (AllReadyH.cons rfl (fun KK hK => ?_) AllReadyH.nil))
            · skip
              refine step_append_srcN rfl (.tmp 24) (.tmp 27) 29 29 rfl w.heap.size 3 i0 (.int .i64 0) 1 8 Try.underlying29 hi0 hz0 hz1 hz2 rfl _ _ _ (by rfl) hL0 _ _ _ (by rfl) (hS1.out _ hB0) q1 q2 hB0.size ?_
              intro va wa howna hgra
              have hba : Below w.heap.size w wa := Below.grown hB0 hgra hB0.size (fun k hk => ((hL0).lt k hk).1)
              refine hK.out _ _ hba (fun hHeld => ?_)
              clear hK KK
              try simp only [Act.put, List.setIfInBounds_toArray, List.set_cons_zero, List.set_cons_succ]
              refine wpAnyH_ready (rs := [6]) (by kernel_rfl) (by simp) ?_
              refine (AllReadyH.cons rfl (fun KK hK => ?_) AllReadyH.nil)
              simp only [List.getElem_toArray, List.getElem_cons_succ, List.getElem_cons_zero]
              go_simp
              have hB1 := Below.alloc hba hba.size (.cells #[.int .i64 n] 3)
              have hN1 := hid (Ob.new wa [Value.int .i64 n] 3)
              refine hK.out _ _ hB1 (fun hHeld => ?_)
              clear hK KK
              try simp only [Act.put, List.setIfInBounds_toArray, List.set_cons_zero, List.set_cons_succ]
              have hownb := hid (own_below howna (below_alloc wa (.cells #[.int .i64 n] 3)))
              refine wpAnyH_ready (rs := [7]) (by kernel_rfl) (by simp) ?_
              refine (AllReadyH.cons rfl (fun KK hK => ?_) AllReadyH.nil)
              refine step_append_srcN rfl (.tmp 28) (.tmp 30) 29 29 rfl w.heap.size 3 i0 (.int .i64 0) 1 8 Try.underlying29 hi0 hz0 hz1 hz2 rfl _ _ _ (by rfl) hownb.out _ _ _ (by rfl) (src_ob Try.underlying29 hN1.out) q3 q4 hB1.size ?_
              intro vc wc hownc hgrc
              have hbc : Below w.heap.size w wc := Below.grown hB1 hgrc hB1.size (fun k hk => ((hownb.out).lt k hk).1)
              refine hK.out _ _ hbc (fun hHeld => ?_)
              clear hK KK
              try simp only [Act.put, List.setIfInBounds_toArray, List.set_cons_zero, List.set_cons_succ]
              refine wpAnyH_ready (rs := [11]) (by kernel_rfl) (by simp) ?_
              refine (AllReadyH.cons rfl (fun KK hK => ?_) AllReadyH.nil)
              refine step_append_srcN rfl (.tmp 31) (.tmp 34) 29 29 rfl w.heap.size 3 i0 (.int .i64 0) 1 8 Try.underlying29 hi0 hz0 hz1 hz2 rfl _ _ _ (by rfl) hownc _ _ _ (by rfl) (HS2.out _ hbc) q5 q6 hbc.size ?_
              intro vz wz hownz hgrz
              have hbz : Below w.heap.size w wz := Below.grown hbc hgrz hbc.size (fun k hk => ((hownc).lt k hk).1)
              refine hK.out _ _ hbz (fun hHeld => ?_)
              clear hK KK
              try simp only [Act.put, List.setIfInBounds_toArray, List.set_cons_zero, List.set_cons_succ]
              refine wpAnyH_ready (rs := [12]) (by kernel_rfl) (by simp) ?_
              refine (AllReadyH.cons rfl (fun KK hK => ?_) AllReadyH.nil)
              simp only [List.getElem_toArray, List.getElem_cons_succ, List.getElem_cons_zero]
              go_simp
              refine hK.out _ _ hbz (fun hHeld => ?_)
              clear hK KK
              try simp only [Act.put, List.setIfInBounds_toArray, List.set_cons_zero, List.set_cons_succ]
              refine wpAnyH_done (by kernel_rfl) ?_ _
              clear hHeld
              go_wp2_with fail
              go_ret
              exact InsRet.mk (by rw [Hcells.out]; exact hownz) (by rw [Hml.out]; omega) HP.out HZ.out (by rw [Hml.out]; omega) hbz
            · skip
              simp only [List.getElem_toArray, List.getElem_cons_succ, List.getElem_cons_zero]
              go_simp
              have hB1 := Below.alloc hB0 hB0.size (.cells #[.int .i64 n] 3)
              have hN1 := hid (Ob.new (w.drew.alloc (.cells #[] 3)) [Value.int .i64 n] 3)
              refine hK.out _ _ hB1 (fun hHeld => ?_)
              clear hK KK
              try simp only [Act.put, List.setIfInBounds_toArray, List.set_cons_zero, List.set_cons_succ]
              have hzs : (w.drew.alloc (.cells #[] 3)).heap.size = w.heap.size + 1 := by go_simp
              rw [hzs] at hN1
              have hL1 := hid (own_below hL0 (below_alloc _ (.cells #[.int .i64 n] 3)))
              refine wpAnyH_ready (rs := [4]) (by kernel_rfl) (by simp) ?_
              refine (AllReadyH.cons rfl (fun KK hK => ?_) AllReadyH.nil)
              refine step_append_srcN rfl (.tmp 24) (.tmp 27) 29 29 rfl w.heap.size 3 i0 (.int .i64 0) 1 8 Try.underlying29 hi0 hz0 hz1 hz2 rfl _ _ _ (by rfl) hL1.out _ _ _ (by rfl) (hS1.out _ hB1) q1 q2 hB1.size ?_
              intro va wa howna hgra
              have hba : Below w.heap.size w wa := Below.grown hB1 hgra hB1.size (fun k hk => ((hL1.out).lt k hk).1)
              refine hK.out _ _ hba (fun hHeld => ?_)
              clear hK KK
              try simp only [Act.put, List.setIfInBounds_toArray, List.set_cons_zero, List.set_cons_succ]
              have hNa := hid (ob_grown hN1.out hgra (by simp))
              refine wpAnyH_ready (rs := [7]) (by kernel_rfl) (by simp) ?_
              refine (AllReadyH.cons rfl (fun KK hK => ?_) AllReadyH.nil)
              refine step_append_srcN rfl (.tmp 28) (.tmp 30) 29 29 rfl w.heap.size 3 i0 (.int .i64 0) 1 8 Try.underlying29 hi0 hz0 hz1 hz2 rfl _ _ _ (by rfl) howna _ _ _ (by rfl) (src_ob Try.underlying29 hNa.out) q3 q4 hba.size ?_
              intro vc wc hownc hgrc
              have hbc : Below w.heap.size w wc := Below.grown hba hgrc hba.size (fun k hk => ((howna).lt k hk).1)
              refine hK.out _ _ hbc (fun hHeld => ?_)
              clear hK KK
              try simp only [Act.put, List.setIfInBounds_toArray, List.set_cons_zero, List.set_cons_succ]
              refine wpAnyH_ready (rs := [11]) (by kernel_rfl) (by simp) ?_
              refine (AllReadyH.cons rfl (fun KK hK => ?_) AllReadyH.nil)
              refine step_append_srcN rfl (.tmp 31) (.tmp 34) 29 29 rfl w.heap.size 3 i0 (.int .i64 0) 1 8 Try.underlying29 hi0 hz0 hz1 hz2 rfl _ _ _ (by rfl) hownc _ _ _ (by rfl) (HS2.out _ hbc) q5 q6 hbc.size ?_
              intro vz wz hownz hgrz
              have hbz : Below w.heap.size w wz := Below.grown hbc hgrz hbc.size (fun k hk => ((hownc).lt k hk).1)
              refine hK.out _ _ hbz (fun hHeld => ?_)
              clear hK KK
              try simp only [Act.put, List.setIfInBounds_toArray, List.set_cons_zero, List.set_cons_succ]
              refine wpAnyH_ready (rs := [12]) (by kernel_rfl) (by simp) ?_
              refine (AllReadyH.cons rfl (fun KK hK => ?_) AllReadyH.nil)
              simp only [List.getElem_toArray, List.getElem_cons_succ, List.getElem_cons_zero]
              go_simp
              refine hK.out _ _ hbz (fun hHeld => ?_)
              clear hK KK
              try simp only [Act.put, List.setIfInBounds_toArray, List.set_cons_zero, List.set_cons_succ]
              refine wpAnyH_done (by kernel_rfl) ?_ _
              clear hHeld
              go_wp2_with fail
              go_ret
              exact InsRet.mk (by rw [Hcells.out]; exact hownz) (by rw [Hml.out]; omega) HP.out HZ.out (by rw [Hml.out]; omega) hbz
          · skip
            simp only [List.getElem_toArray, List.getElem_cons_succ, List.getElem_cons_zero]
            go_simp
            have hB1 := Below.alloc hd0 hd0.size (.cells #[.int .i64 n] 3)
            have hN1 := hid (Ob.new w.drew [Value.int .i64 n] 3)
            refine hK.out _ _ hB1 (fun hHeld => ?_)
            clear hK KK
            try simp only [Act.put, List.setIfInBounds_toArray, List.set_cons_zero, List.set_cons_succ]
            refine wpAnyH_ready (rs := [0]) (by kernel_rfl) (by simp) ?_
            refine (AllReadyH.cons rfl (fun KK hK => ?_) AllReadyH.nil)
            simp only [List.getElem_toArray, List.getElem_cons_succ, List.getElem_cons_zero]
            go_simp
            have hB0 := Below.alloc hB1 hB1.size (.cells #[] 3)
            have hL0 := World.ownsRow_lit (base := w.heap.size) (e := 3) (size := 1) (w.drew.alloc (.cells #[.int .i64 n] 3)) #[] 0 hB1.size (by unfold maxLen; omega) rfl
            refine hK.out _ _ hB0 (fun hHeld => ?_)
            clear hK KK
            try simp only [Act.put, List.setIfInBounds_toArray, List.set_cons_zero, List.set_cons_succ]
            have hzs : (w.drew.alloc (.cells #[.int .i64 n] 3)).heap.size = w.heap.size + 1 := by go_simp
            rw [hzs] at hL0
            refine wpAnyH_ready (rs := [4]) (by kernel_rfl) (by simp) ?_
            refine (AllReadyH.cons rfl (fun KK hK => ?_) AllReadyH.nil)
            refine step_append_srcN rfl (.tmp 24) (.tmp 27) 29 29 rfl w.heap.size 3 i0 (.int .i64 0) 1 8 Try.underlying29 hi0 hz0 hz1 hz2 rfl _ _ _ (by rfl) hL0 _ _ _ (by rfl) (hS1.out _ hB0) q1 q2 hB0.size ?_
            intro va wa howna hgra
            have hba : Below w.heap.size w wa := Below.grown hB0 hgra hB0.size (fun k hk => ((hL0).lt k hk).1)
            refine hK.out _ _ hba (fun hHeld => ?_)
            clear hK KK
            try simp only [Act.put, List.setIfInBounds_toArray, List.set_cons_zero, List.set_cons_succ]
            have hNa := hid (ob_grown ((hN1.out).next (below_alloc _ (.cells #[] 3))) hgra (by simp))
            refine wpAnyH_ready (rs := [7]) (by kernel_rfl) (by simp) ?_
            refine (AllReadyH.cons rfl (fun KK hK => ?_) AllReadyH.nil)
            refine step_append_srcN rfl (.tmp 28) (.tmp 30) 29 29 rfl w.heap.size 3 i0 (.int .i64 0) 1 8 Try.underlying29 hi0 hz0 hz1 hz2 rfl _ _ _ (by rfl) howna _ _ _ (by rfl) (src_ob Try.underlying29 hNa.out) q3 q4 hba.size ?_
            intro vc wc hownc hgrc
            have hbc : Below w.heap.size w wc := Below.grown hba hgrc hba.size (fun k hk => ((howna).lt k hk).1)
            refine hK.out _ _ hbc (fun hHeld => ?_)
            clear hK KK
            try simp only [Act.put, List.setIfInBounds_toArray, List.set_cons_zero, List.set_cons_succ]
            refine wpAnyH_ready (rs := [11]) (by kernel_rfl) (by simp) ?_
            refine (AllReadyH.cons rfl (fun KK hK => ?_) AllReadyH.nil)
            refine step_append_srcN rfl (.tmp 31) (.tmp 34) 29 29 rfl w.heap.size 3 i0 (.int .i64 0) 1 8 Try.underlying29 hi0 hz0 hz1 hz2 rfl _ _ _ (by rfl) hownc _ _ _ (by rfl) (HS2.out _ hbc) q5 q6 hbc.size ?_
            intro vz wz hownz hgrz
            have hbz : Below w.heap.size w wz := Below.grown hbc hgrz hbc.size (fun k hk => ((hownc).lt k hk).1)
            refine hK.out _ _ hbz (fun hHeld => ?_)
            clear hK KK
            try simp only [Act.put, List.setIfInBounds_toArray, List.set_cons_zero, List.set_cons_succ]
            refine wpAnyH_ready (rs := [12]) (by kernel_rfl) (by simp) ?_
            refine (AllReadyH.cons rfl (fun KK hK => ?_) AllReadyH.nil)
            simp only [List.getElem_toArray, List.getElem_cons_succ, List.getElem_cons_zero]
            go_simp
            refine hK.out _ _ hbz (fun hHeld => ?_)
            clear hK KK
            try simp only [Act.put, List.setIfInBounds_toArray, List.set_cons_zero, List.set_cons_succ]
            refine wpAnyH_done (by kernel_rfl) ?_ _
            clear hHeld
            go_wp2_with fail
            go_ret
            exact InsRet.mk (by rw [Hcells.out]; exact hownz) (by rw [Hml.out]; omega) HP.out HZ.out (by rw [Hml.out]; omega) hbz
        | some ad =>
          by_cases hck : c = k
          · have Hck := hid hck
            have Hll := hid (show l.length = k by omega)
            have b2 : ¬ (k : Int) < l.length := by omega
            have HS2 := hid (fun X (hX : Below w.heap.size w X) => src_its (P := Try.prog) X Try.underlying29 (c := c - k) (List.length_drop : (l.drop k).length = l.length - k) (its_dropN (H.out.below hX (Nat.le_refl _)) k (A' := some ad) (fun h => by have := Hll.out; omega)))
            clear hck hsame hstop hP hZ HH Hnm HI hend
            go_wp2_with fail
            refine wp_region_held_drew (S := fun X => Below w.heap.size w X) (by kernel_rfl) (Below.refl _ w).drew (fun hHeld => ?_)
            refine takeH 1 25 (.slice (some ad) l.length c) rfl rfl (by kernel_rfl) (by kernel_rfl) (by kernel_rfl) (fun _ _ _ h => h) (by kernel_rfl) (fun X hX => by clear hX; first | rfl | go_simp) hHeld ?_
            simp only [Act.put, List.setIfInBounds_toArray, List.set_cons_zero, List.set_cons_succ]
            refine takeH 2 26 (.int .i64 (k : Int)) rfl rfl (by kernel_rfl) (by kernel_rfl) (by kernel_rfl) (fun _ _ _ h => h) (by kernel_rfl) (fun X hX => by clear hX; first | rfl | go_simp) hHeld ?_
            simp only [Act.put, List.setIfInBounds_toArray, List.set_cons_zero, List.set_cons_succ]
            refine takeH 3 27 (.slice (some ad) k c) rfl rfl (by kernel_rfl) (by kernel_rfl) (by kernel_rfl) (fun _ _ _ h => h) (by kernel_rfl) (fun X hX => by clear hX; go_simp; try (intro h; omega)) hHeld ?_
            simp only [Act.put, List.setIfInBounds_toArray, List.set_cons_zero, List.set_cons_succ]
            refine takeH 5 29 (.int .i64 n) rfl rfl (by kernel_rfl) (by kernel_rfl) (by kernel_rfl) (fun _ _ _ h => h) (by kernel_rfl) (fun X hX => by clear hX; first | rfl | go_simp) hHeld ?_
            simp only [Act.put, List.setIfInBounds_toArray, List.set_cons_zero, List.set_cons_succ]
            refine takeH 8 32 (.slice (some ad) l.length c) rfl rfl (by kernel_rfl) (by kernel_rfl) (by kernel_rfl) (fun _ _ _ h => h) (by kernel_rfl) (fun X hX => by clear hX; first | rfl | go_simp) hHeld ?_
            simp only [Act.put, List.setIfInBounds_toArray, List.set_cons_zero, List.set_cons_succ]
            refine takeH 9 33 (.int .i64 (k : Int)) rfl rfl (by kernel_rfl) (by kernel_rfl) (by kernel_rfl) (fun _ _ _ h => h) (by kernel_rfl) (fun X hX => by clear hX; first | rfl | go_simp) hHeld ?_
            simp only [Act.put, List.setIfInBounds_toArray, List.set_cons_zero, List.set_cons_succ]
            refine takeH 10 34 (.slice (some ad) (l.length - k) (c - k)) rfl rfl (by kernel_rfl) (by kernel_rfl) (by kernel_rfl) (fun _ _ _ h => h) (by kernel_rfl) (fun X hX => by clear hX; have hck1 := Hck.out; go_simp; try (intro h; omega)) hHeld ?_
            simp only [Act.put, List.setIfInBounds_toArray, List.set_cons_zero, List.set_cons_succ]
            have hd0 : Below w.heap.size w w.drew := (Below.refl _ w).drew
            refine wpAnyH_ready (rs := [0, 6]) (by kernel_rfl) (by simp) ?_
            refine (AllReadyH.cons rfl (fun KK hK => ?_) (AllReadyH.cons rfl (fun KK hK => ?_) AllReadyH.nil))
            · skip
              simp only [List.getElem_toArray, List.getElem_cons_succ, List.getElem_cons_zero]
              go_simp
              have hB0 := Below.alloc hd0 hd0.size (.cells #[] 3)
              have hL0 := World.ownsRow_lit (base := w.heap.size) (e := 3) (size := 1) w.drew #[] 0 hd0.size (by unfold maxLen; omega) rfl
              refine hK.out _ _ hB0 (fun hHeld => ?_)
              clear hK KK
              try simp only [Act.put, List.setIfInBounds_toArray, List.set_cons_zero, List.set_cons_succ]
              refine wpAnyH_ready (rs := [4, 6]) (by kernel_rfl) (by simp) ?_
              refine (AllReadyH.cons rfl (fun KK hK => ?_) (AllReadyH.cons rfl (fun KK hK => ?_) AllReadyH.nil))
              · skip
                refine step_append_srcN rfl (.tmp 24) (.tmp 27) 29 29 rfl w.heap.size 3 i0 (.int .i64 0) 1 8 Try.underlying29 hi0 hz0 hz1 hz2 rfl _ _ _ (by rfl) hL0 _ _ _ (by rfl) (hS1.out _ hB0) q1 q2 hB0.size ?_
                intro va wa howna hgra
                have hba : Below w.heap.size w wa := Below.grown hB0 hgra hB0.size (fun k hk => ((hL0).lt k hk).1)
                refine hK.out _ _ hba (fun hHeld => ?_)
                clear hK KK
                try simp only [Act.put, List.setIfInBounds_toArray, List.set_cons_zero, List.set_cons_succ]
                refine wpAnyH_ready (rs := [6]) (by kernel_rfl) (by simp) ?_
                refine (AllReadyH.cons rfl (fun KK hK => ?_) AllReadyH.nil)
                simp only [List.getElem_toArray, List.getElem_cons_succ, List.getElem_cons_zero]
                go_simp
                have hB1 := Below.alloc hba hba.size (.cells #[.int .i64 n] 3)
                have hN1 := hid (Ob.new wa [Value.int .i64 n] 3)
                refine hK.out _ _ hB1 (fun hHeld => ?_)
                clear hK KK
                try simp only [Act.put, List.setIfInBounds_toArray, List.set_cons_zero, List.set_cons_succ]
                have hownb := hid (own_below howna (below_alloc wa (.cells #[.int .i64 n] 3)))
                refine wpAnyH_ready (rs := [7]) (by kernel_rfl) (by simp) ?_
                refine (AllReadyH.cons rfl (fun KK hK => ?_) AllReadyH.nil)
                refine step_append_srcN rfl (.tmp 28) (.tmp 30) 29 29 rfl w.heap.size 3 i0 (.int .i64 0) 1 8 Try.underlying29 hi0 hz0 hz1 hz2 rfl _ _ _ (by rfl) hownb.out _ _ _ (by rfl) (src_ob Try.underlying29 hN1.out) q3 q4 hB1.size ?_
                intro vc wc hownc hgrc
                have hbc : Below w.heap.size w wc := Below.grown hB1 hgrc hB1.size (fun k hk => ((hownb.out).lt k hk).1)
                refine hK.out _ _ hbc (fun hHeld => ?_)
                clear hK KK
                try simp only [Act.put, List.setIfInBounds_toArray, List.set_cons_zero, List.set_cons_succ]
                refine wpAnyH_ready (rs := [11]) (by kernel_rfl) (by simp) ?_
                refine (AllReadyH.cons rfl (fun KK hK => ?_) AllReadyH.nil)
                refine step_append_srcN rfl (.tmp 31) (.tmp 34) 29 29 rfl w.heap.size 3 i0 (.int .i64 0) 1 8 Try.underlying29 hi0 hz0 hz1 hz2 rfl _ _ _ (by rfl) hownc _ _ _ (by rfl) (HS2.out _ hbc) q5 q6 hbc.size ?_
                intro vz wz hownz hgrz
                have hbz : Below w.heap.size w wz := Below.grown hbc hgrz hbc.size (fun k hk => ((hownc).lt k hk).1)
                refine hK.out _ _ hbz (fun hHeld => ?_)
                clear hK KK
                try simp only [Act.put, List.setIfInBounds_toArray, List.set_cons_zero, List.set_cons_succ]
                refine wpAnyH_ready (rs := [12]) (by kernel_rfl) (by simp) ?_
                refine (AllReadyH.cons rfl (fun KK hK => ?_) AllReadyH.nil)
                simp only [List.getElem_toArray, List.getElem_cons_succ, List.getElem_cons_zero]
                go_simp
                refine hK.out _ _ hbz (fun hHeld => ?_)
                clear hK KK
                try simp only [Act.put, List.setIfInBounds_toArray, List.set_cons_zero, List.set_cons_succ]
                refine wpAnyH_done (by kernel_rfl) ?_ _
                clear hHeld
                go_wp2_with fail
                go_ret
                exact InsRet.mk (by rw [Hcells.out]; exact hownz) (by rw [Hml.out]; omega) HP.out HZ.out (by rw [Hml.out]; omega) hbz
              · skip
                simp only [List.getElem_toArray, List.getElem_cons_succ, List.getElem_cons_zero]
                go_simp
                have hB1 := Below.alloc hB0 hB0.size (.cells #[.int .i64 n] 3)
                have hN1 := hid (Ob.new (w.drew.alloc (.cells #[] 3)) [Value.int .i64 n] 3)
                refine hK.out _ _ hB1 (fun hHeld => ?_)
                clear hK KK
                try simp only [Act.put, List.setIfInBounds_toArray, List.set_cons_zero, List.set_cons_succ]
                have hzs : (w.drew.alloc (.cells #[] 3)).heap.size = w.heap.size + 1 := by go_simp
                rw [hzs] at hN1
                have hL1 := hid (own_below hL0 (below_alloc _ (.cells #[.int .i64 n] 3)))
                refine wpAnyH_ready (rs := [4]) (by kernel_rfl) (by simp) ?_
                refine (AllReadyH.cons rfl (fun KK hK => ?_) AllReadyH.nil)
                refine step_append_srcN rfl (.tmp 24) (.tmp 27) 29 29 rfl w.heap.size 3 i0 (.int .i64 0) 1 8 Try.underlying29 hi0 hz0 hz1 hz2 rfl _ _ _ (by rfl) hL1.out _ _ _ (by rfl) (hS1.out _ hB1) q1 q2 hB1.size ?_
                intro va wa howna hgra
                have hba : Below w.heap.size w wa := Below.grown hB1 hgra hB1.size (fun k hk => ((hL1.out).lt k hk).1)
                refine hK.out _ _ hba (fun hHeld => ?_)
                clear hK KK
                try simp only [Act.put, List.setIfInBounds_toArray, List.set_cons_zero, List.set_cons_succ]
                have hNa := hid (ob_grown hN1.out hgra (by simp))
                refine wpAnyH_ready (rs := [7]) (by kernel_rfl) (by simp) ?_
                refine (AllReadyH.cons rfl (fun KK hK => ?_) AllReadyH.nil)
                refine step_append_srcN rfl (.tmp 28) (.tmp 30) 29 29 rfl w.heap.size 3 i0 (.int .i64 0) 1 8 Try.underlying29 hi0 hz0 hz1 hz2 rfl _ _ _ (by rfl) howna _ _ _ (by rfl) (src_ob Try.underlying29 hNa.out) q3 q4 hba.size ?_
                intro vc wc hownc hgrc
                have hbc : Below w.heap.size w wc := Below.grown hba hgrc hba.size (fun k hk => ((howna).lt k hk).1)
                refine hK.out _ _ hbc (fun hHeld => ?_)
                clear hK KK
                try simp only [Act.put, List.setIfInBounds_toArray, List.set_cons_zero, List.set_cons_succ]
                refine wpAnyH_ready (rs := [11]) (by kernel_rfl) (by simp) ?_
                refine (AllReadyH.cons rfl (fun KK hK => ?_) AllReadyH.nil)
                refine step_append_srcN rfl (.tmp 31) (.tmp 34) 29 29 rfl w.heap.size 3 i0 (.int .i64 0) 1 8 Try.underlying29 hi0 hz0 hz1 hz2 rfl _ _ _ (by rfl) hownc _ _ _ (by rfl) (HS2.out _ hbc) q5 q6 hbc.size ?_
                intro vz wz hownz hgrz
                have hbz : Below w.heap.size w wz := Below.grown hbc hgrz hbc.size (fun k hk => ((hownc).lt k hk).1)
                refine hK.out _ _ hbz (fun hHeld => ?_)
                clear hK KK
                try simp only [Act.put, List.setIfInBounds_toArray, List.set_cons_zero, List.set_cons_succ]
                refine wpAnyH_ready (rs := [12]) (by kernel_rfl) (by simp) ?_
                refine (AllReadyH.cons rfl (fun KK hK => ?_) AllReadyH.nil)
                simp only [List.getElem_toArray, List.getElem_cons_succ, List.getElem_cons_zero]
                go_simp
                refine hK.out _ _ hbz (fun hHeld => ?_)
                clear hK KK
                try simp only [Act.put, List.setIfInBounds_toArray, List.set_cons_zero, List.set_cons_succ]
                refine wpAnyH_done (by kernel_rfl) ?_ _
                clear hHeld
                go_wp2_with fail
                go_ret
                exact InsRet.mk (by rw [Hcells.out]; exact hownz) (by rw [Hml.out]; omega) HP.out HZ.out (by rw [Hml.out]; omega) hbz
            · skip
              simp only [List.getElem_toArray, List.getElem_cons_succ, List.getElem_cons_zero]
              go_simp
              have hB1 := Below.alloc hd0 hd0.size (.cells #[.int .i64 n] 3)
              have hN1 := hid (Ob.new w.drew [Value.int .i64 n] 3)
              refine hK.out _ _ hB1 (fun hHeld => ?_)
              clear hK KK
              try simp only [Act.put, List.setIfInBounds_toArray, List.set_cons_zero, List.set_cons_succ]
              refine wpAnyH_ready (rs := [0]) (by kernel_rfl) (by simp) ?_
              refine (AllReadyH.cons rfl (fun KK hK => ?_) AllReadyH.nil)
              simp only [List.getElem_toArray, List.getElem_cons_succ, List.getElem_cons_zero]
              go_simp
              have hB0 := Below.alloc hB1 hB1.size (.cells #[] 3)
              have hL0 := World.ownsRow_lit (base := w.heap.size) (e := 3) (size := 1) (w.drew.alloc (.cells #[.int .i64 n] 3)) #[] 0 hB1.size (by unfold maxLen; omega) rfl
              refine hK.out _ _ hB0 (fun hHeld => ?_)
              clear hK KK
              try simp only [Act.put, List.setIfInBounds_toArray, List.set_cons_zero, List.set_cons_succ]
              have hzs : (w.drew.alloc (.cells #[.int .i64 n] 3)).heap.size = w.heap.size + 1 := by go_simp
              rw [hzs] at hL0
              refine wpAnyH_ready (rs := [4]) (by kernel_rfl) (by simp) ?_
              refine (AllReadyH.cons rfl (fun KK hK => ?_) AllReadyH.nil)
              refine step_append_srcN rfl (.tmp 24) (.tmp 27) 29 29 rfl w.heap.size 3 i0 (.int .i64 0) 1 8 Try.underlying29 hi0 hz0 hz1 hz2 rfl _ _ _ (by rfl) hL0 _ _ _ (by rfl) (hS1.out _ hB0) q1 q2 hB0.size ?_
              intro va wa howna hgra
              have hba : Below w.heap.size w wa := Below.grown hB0 hgra hB0.size (fun k hk => ((hL0).lt k hk).1)
              refine hK.out _ _ hba (fun hHeld => ?_)
              clear hK KK
              try simp only [Act.put, List.setIfInBounds_toArray, List.set_cons_zero, List.set_cons_succ]
              have hNa := hid (ob_grown ((hN1.out).next (below_alloc _ (.cells #[] 3))) hgra (by simp))
              refine wpAnyH_ready (rs := [7]) (by kernel_rfl) (by simp) ?_
              refine (AllReadyH.cons rfl (fun KK hK => ?_) AllReadyH.nil)
              refine step_append_srcN rfl (.tmp 28) (.tmp 30) 29 29 rfl w.heap.size 3 i0 (.int .i64 0) 1 8 Try.underlying29 hi0 hz0 hz1 hz2 rfl _ _ _ (by rfl) howna _ _ _ (by rfl) (src_ob Try.underlying29 hNa.out) q3 q4 hba.size ?_
              intro vc wc hownc hgrc
              have hbc : Below w.heap.size w wc := Below.grown hba hgrc hba.size (fun k hk => ((howna).lt k hk).1)
              refine hK.out _ _ hbc (fun hHeld => ?_)
              clear hK KK
              try simp only [Act.put, List.setIfInBounds_toArray, List.set_cons_zero, List.set_cons_succ]
              refine wpAnyH_ready (rs := [11]) (by kernel_rfl) (by simp) ?_
              refine (AllReadyH.cons rfl (fun KK hK => ?_) AllReadyH.nil)
              refine step_append_srcN rfl (.tmp 31) (.tmp 34) 29 29 rfl w.heap.size 3 i0 (.int .i64 0) 1 8 Try.underlying29 hi0 hz0 hz1 hz2 rfl _ _ _ (by rfl) hownc _ _ _ (by rfl) (HS2.out _ hbc) q5 q6 hbc.size ?_
              intro vz wz hownz hgrz
              have hbz : Below w.heap.size w wz := Below.grown hbc hgrz hbc.size (fun k hk => ((hownc).lt k hk).1)
              refine hK.out _ _ hbz (fun hHeld => ?_)
              clear hK KK
              try simp only [Act.put, List.setIfInBounds_toArray, List.set_cons_zero, List.set_cons_succ]
              refine wpAnyH_ready (rs := [12]) (by kernel_rfl) (by simp) ?_
              refine (AllReadyH.cons rfl (fun KK hK => ?_) AllReadyH.nil)
              simp only [List.getElem_toArray, List.getElem_cons_succ, List.getElem_cons_zero]
              go_simp
              refine hK.out _ _ hbz (fun hHeld => ?_)
              clear hK KK
              try simp only [Act.put, List.setIfInBounds_toArray, List.set_cons_zero, List.set_cons_succ]
              refine wpAnyH_done (by kernel_rfl) ?_ _
              clear hHeld
              go_wp2_with fail
              go_ret
              exact InsRet.mk (by rw [Hcells.out]; exact hownz) (by rw [Hml.out]; omega) HP.out HZ.out (by rw [Hml.out]; omega) hbz
          · have HS2 := hid (fun X (hX : Below w.heap.size w X) => src_its (P := Try.prog) X Try.underlying29 (c := c - k) (List.length_drop : (l.drop k).length = l.length - k) (its_dropN (H.out.below hX (Nat.le_refl _)) k (A' := some (ad.add k)) (fun _ => rfl)))
            by_cases hlt : k < l.length
            · have b2 : (k : Int) < l.length := by omega
              obtain ⟨ad2, y, hae, _, hy, hcy⟩ := Its.get H.out hlt
              injection hae with hae
              subst hae
              have hny : ¬ y < n := fun hyn => absurd (hstop y hy.out) (by omega)
              clear hsame hstop hP hZ HH Hnm HI hend hy
              go_wp2_with fail
              refine wp_region_held_drew (S := fun X => Below w.heap.size w X) (by kernel_rfl) (Below.refl _ w).drew (fun hHeld => ?_)
              refine takeH 1 25 (.slice (some ad) l.length c) rfl rfl (by kernel_rfl) (by kernel_rfl) (by kernel_rfl) (fun _ _ _ h => h) (by kernel_rfl) (fun X hX => by clear hX; first | rfl | go_simp) hHeld ?_
              simp only [Act.put, List.setIfInBounds_toArray, List.set_cons_zero, List.set_cons_succ]
              refine takeH 2 26 (.int .i64 (k : Int)) rfl rfl (by kernel_rfl) (by kernel_rfl) (by kernel_rfl) (fun _ _ _ h => h) (by kernel_rfl) (fun X hX => by clear hX; first | rfl | go_simp) hHeld ?_
              simp only [Act.put, List.setIfInBounds_toArray, List.set_cons_zero, List.set_cons_succ]
              refine takeH 3 27 (.slice (some ad) k c) rfl rfl (by kernel_rfl) (by kernel_rfl) (by kernel_rfl) (fun _ _ _ h => h) (by kernel_rfl) (fun X hX => by clear hX; go_simp; try (intro h; omega)) hHeld ?_
              simp only [Act.put, List.setIfInBounds_toArray, List.set_cons_zero, List.set_cons_succ]
              refine takeH 5 29 (.int .i64 n) rfl rfl (by kernel_rfl) (by kernel_rfl) (by kernel_rfl) (fun _ _ _ h => h) (by kernel_rfl) (fun X hX => by clear hX; first | rfl | go_simp) hHeld ?_
              simp only [Act.put, List.setIfInBounds_toArray, List.set_cons_zero, List.set_cons_succ]
              refine takeH 8 32 (.slice (some ad) l.length c) rfl rfl (by kernel_rfl) (by kernel_rfl) (by kernel_rfl) (fun _ _ _ h => h) (by kernel_rfl) (fun X hX => by clear hX; first | rfl | go_simp) hHeld ?_
              simp only [Act.put, List.setIfInBounds_toArray, List.set_cons_zero, List.set_cons_succ]
              refine takeH 9 33 (.int .i64 (k : Int)) rfl rfl (by kernel_rfl) (by kernel_rfl) (by kernel_rfl) (fun _ _ _ h => h) (by kernel_rfl) (fun X hX => by clear hX; first | rfl | go_simp) hHeld ?_
              simp only [Act.put, List.setIfInBounds_toArray, List.set_cons_zero, List.set_cons_succ]
              refine takeH 10 34 (.slice (some (ad.add k)) (l.length - k) (c - k)) rfl rfl (by kernel_rfl) (by kernel_rfl) (by kernel_rfl) (fun _ _ _ h => h) (by kernel_rfl) (fun X hX => by clear hX; go_simp; try (intro h; omega)) hHeld ?_
              simp only [Act.put, List.setIfInBounds_toArray, List.set_cons_zero, List.set_cons_succ]
              have hd0 : Below w.heap.size w w.drew := (Below.refl _ w).drew
              refine wpAnyH_ready (rs := [0, 6]) (by kernel_rfl) (by simp) ?_
              refine (AllReadyH.cons rfl (fun KK hK => ?_) (AllReadyH.cons rfl (fun KK hK => ?_) AllReadyH.nil))
              · skip
                simp only [List.getElem_toArray, List.getElem_cons_succ, List.getElem_cons_zero]
                go_simp
                have hB0 := Below.alloc hd0 hd0.size (.cells #[] 3)
                have hL0 := World.ownsRow_lit (base := w.heap.size) (e := 3) (size := 1) w.drew #[] 0 hd0.size (by unfold maxLen; omega) rfl
                refine hK.out _ _ hB0 (fun hHeld => ?_)
                clear hK KK
                try simp only [Act.put, List.setIfInBounds_toArray, List.set_cons_zero, List.set_cons_succ]
                refine wpAnyH_ready (rs := [4, 6]) (by kernel_rfl) (by simp) ?_
                refine (AllReadyH.cons rfl (fun KK hK => ?_) (AllReadyH.cons rfl (fun KK hK => ?_) AllReadyH.nil))
                · skip
                  refine step_append_srcN rfl (.tmp 24) (.tmp 27) 29 29 rfl w.heap.size 3 i0 (.int .i64 0) 1 8 Try.underlying29 hi0 hz0 hz1 hz2 rfl _ _ _ (by rfl) hL0 _ _ _ (by rfl) (hS1.out _ hB0) q1 q2 hB0.size ?_
                  intro va wa howna hgra
                  have hba : Below w.heap.size w wa := Below.grown hB0 hgra hB0.size (fun k hk => ((hL0).lt k hk).1)
                  refine hK.out _ _ hba (fun hHeld => ?_)
                  clear hK KK
                  try simp only [Act.put, List.setIfInBounds_toArray, List.set_cons_zero, List.set_cons_succ]
                  refine wpAnyH_ready (rs := [6]) (by kernel_rfl) (by simp) ?_
                  refine (AllReadyH.cons rfl (fun KK hK => ?_) AllReadyH.nil)
                  simp only [List.getElem_toArray, List.getElem_cons_succ, List.getElem_cons_zero]
                  go_simp
                  have hB1 := Below.alloc hba hba.size (.cells #[.int .i64 n] 3)
                  have hN1 := hid (Ob.new wa [Value.int .i64 n] 3)
                  refine hK.out _ _ hB1 (fun hHeld => ?_)
                  clear hK KK
                  try simp only [Act.put, List.setIfInBounds_toArray, List.set_cons_zero, List.set_cons_succ]
                  have hownb := hid (own_below howna (below_alloc wa (.cells #[.int .i64 n] 3)))
                  refine wpAnyH_ready (rs := [7]) (by kernel_rfl) (by simp) ?_
                  refine (AllReadyH.cons rfl (fun KK hK => ?_) AllReadyH.nil)
                  refine step_append_srcN rfl (.tmp 28) (.tmp 30) 29 29 rfl w.heap.size 3 i0 (.int .i64 0) 1 8 Try.underlying29 hi0 hz0 hz1 hz2 rfl _ _ _ (by rfl) hownb.out _ _ _ (by rfl) (src_ob Try.underlying29 hN1.out) q3 q4 hB1.size ?_
                  intro vc wc hownc hgrc
                  have hbc : Below w.heap.size w wc := Below.grown hB1 hgrc hB1.size (fun k hk => ((hownb.out).lt k hk).1)
                  refine hK.out _ _ hbc (fun hHeld => ?_)
                  clear hK KK
                  try simp only [Act.put, List.setIfInBounds_toArray, List.set_cons_zero, List.set_cons_succ]
                  refine wpAnyH_ready (rs := [11]) (by kernel_rfl) (by simp) ?_
                  refine (AllReadyH.cons rfl (fun KK hK => ?_) AllReadyH.nil)
                  refine step_append_srcN rfl (.tmp 31) (.tmp 34) 29 29 rfl w.heap.size 3 i0 (.int .i64 0) 1 8 Try.underlying29 hi0 hz0 hz1 hz2 rfl _ _ _ (by rfl) hownc _ _ _ (by rfl) (HS2.out _ hbc) q5 q6 hbc.size ?_
                  intro vz wz hownz hgrz
                  have hbz : Below w.heap.size w wz := Below.grown hbc hgrz hbc.size (fun k hk => ((hownc).lt k hk).1)
                  refine hK.out _ _ hbz (fun hHeld => ?_)
                  clear hK KK
                  try simp only [Act.put, List.setIfInBounds_toArray, List.set_cons_zero, List.set_cons_succ]
                  refine wpAnyH_ready (rs := [12]) (by kernel_rfl) (by simp) ?_
                  refine (AllReadyH.cons rfl (fun KK hK => ?_) AllReadyH.nil)
                  simp only [List.getElem_toArray, List.getElem_cons_succ, List.getElem_cons_zero]
                  go_simp
                  refine hK.out _ _ hbz (fun hHeld => ?_)
                  clear hK KK
                  try simp only [Act.put, List.setIfInBounds_toArray, List.set_cons_zero, List.set_cons_succ]
                  refine wpAnyH_done (by kernel_rfl) ?_ _
                  clear hHeld
                  go_wp2_with fail
                  go_ret
                  exact InsRet.mk (by rw [Hcells.out]; exact hownz) (by rw [Hml.out]; omega) HP.out HZ.out (by rw [Hml.out]; omega) hbz
                · skip
                  simp only [List.getElem_toArray, List.getElem_cons_succ, List.getElem_cons_zero]
                  go_simp
                  have hB1 := Below.alloc hB0 hB0.size (.cells #[.int .i64 n] 3)
                  have hN1 := hid (Ob.new (w.drew.alloc (.cells #[] 3)) [Value.int .i64 n] 3)
                  refine hK.out _ _ hB1 (fun hHeld => ?_)
                  clear hK KK
                  try simp only [Act.put, List.setIfInBounds_toArray, List.set_cons_zero, List.set_cons_succ]
                  have hzs : (w.drew.alloc (.cells #[] 3)).heap.size = w.heap.size + 1 := by go_simp
                  rw [hzs] at hN1
                  have hL1 := hid (own_below hL0 (below_alloc _ (.cells #[.int .i64 n] 3)))
                  refine wpAnyH_ready (rs := [4]) (by kernel_rfl) (by simp) ?_
                  refine (AllReadyH.cons rfl (fun KK hK => ?_) AllReadyH.nil)
                  refine step_append_srcN rfl (.tmp 24) (.tmp 27) 29 29 rfl w.heap.size 3 i0 (.int .i64 0) 1 8 Try.underlying29 hi0 hz0 hz1 hz2 rfl _ _ _ (by rfl) hL1.out _ _ _ (by rfl) (hS1.out _ hB1) q1 q2 hB1.size ?_
                  intro va wa howna hgra
                  have hba : Below w.heap.size w wa := Below.grown hB1 hgra hB1.size (fun k hk => ((hL1.out).lt k hk).1)
                  refine hK.out _ _ hba (fun hHeld => ?_)
                  clear hK KK
                  try simp only [Act.put, List.setIfInBounds_toArray, List.set_cons_zero, List.set_cons_succ]
                  have hNa := hid (ob_grown hN1.out hgra (by simp))
                  refine wpAnyH_ready (rs := [7]) (by kernel_rfl) (by simp) ?_
                  refine (AllReadyH.cons rfl (fun KK hK => ?_) AllReadyH.nil)
                  refine step_append_srcN rfl (.tmp 28) (.tmp 30) 29 29 rfl w.heap.size 3 i0 (.int .i64 0) 1 8 Try.underlying29 hi0 hz0 hz1 hz2 rfl _ _ _ (by rfl) howna _ _ _ (by rfl) (src_ob Try.underlying29 hNa.out) q3 q4 hba.size ?_
                  intro vc wc hownc hgrc
                  have hbc : Below w.heap.size w wc := Below.grown hba hgrc hba.size (fun k hk => ((howna).lt k hk).1)
                  refine hK.out _ _ hbc (fun hHeld => ?_)
                  clear hK KK
                  try simp only [Act.put, List.setIfInBounds_toArray, List.set_cons_zero, List.set_cons_succ]
                  refine wpAnyH_ready (rs := [11]) (by kernel_rfl) (by simp) ?_
                  refine (AllReadyH.cons rfl (fun KK hK => ?_) AllReadyH.nil)
                  refine step_append_srcN rfl (.tmp 31) (.tmp 34) 29 29 rfl w.heap.size 3 i0 (.int .i64 0) 1 8 Try.underlying29 hi0 hz0 hz1 hz2 rfl _ _ _ (by rfl) hownc _ _ _ (by rfl) (HS2.out _ hbc) q5 q6 hbc.size ?_
                  intro vz wz hownz hgrz
                  have hbz : Below w.heap.size w wz := Below.grown hbc hgrz hbc.size (fun k hk => ((hownc).lt k hk).1)
                  refine hK.out _ _ hbz (fun hHeld => ?_)
                  clear hK KK
                  try simp only [Act.put, List.setIfInBounds_toArray, List.set_cons_zero, List.set_cons_succ]
                  refine wpAnyH_ready (rs := [12]) (by kernel_rfl) (by simp) ?_
                  refine (AllReadyH.cons rfl (fun KK hK => ?_) AllReadyH.nil)
                  simp only [List.getElem_toArray, List.getElem_cons_succ, List.getElem_cons_zero]
                  go_simp
                  refine hK.out _ _ hbz (fun hHeld => ?_)
                  clear hK KK
                  try simp only [Act.put, List.setIfInBounds_toArray, List.set_cons_zero, List.set_cons_succ]
                  refine wpAnyH_done (by kernel_rfl) ?_ _
                  clear hHeld
                  go_wp2_with fail
                  go_ret
                  exact InsRet.mk (by rw [Hcells.out]; exact hownz) (by rw [Hml.out]; omega) HP.out HZ.out (by rw [Hml.out]; omega) hbz
              · skip
                simp only [List.getElem_toArray, List.getElem_cons_succ, List.getElem_cons_zero]
                go_simp
                have hB1 := Below.alloc hd0 hd0.size (.cells #[.int .i64 n] 3)
                have hN1 := hid (Ob.new w.drew [Value.int .i64 n] 3)
                refine hK.out _ _ hB1 (fun hHeld => ?_)
                clear hK KK
                try simp only [Act.put, List.setIfInBounds_toArray, List.set_cons_zero, List.set_cons_succ]
                refine wpAnyH_ready (rs := [0]) (by kernel_rfl) (by simp) ?_
                refine (AllReadyH.cons rfl (fun KK hK => ?_) AllReadyH.nil)
                simp only [List.getElem_toArray, List.getElem_cons_succ, List.getElem_cons_zero]
                go_simp
                have hB0 := Below.alloc hB1 hB1.size (.cells #[] 3)
                have hL0 := World.ownsRow_lit (base := w.heap.size) (e := 3) (size := 1) (w.drew.alloc (.cells #[.int .i64 n] 3)) #[] 0 hB1.size (by unfold maxLen; omega) rfl
                refine hK.out _ _ hB0 (fun hHeld => ?_)
                clear hK KK
                try simp only [Act.put, List.setIfInBounds_toArray, List.set_cons_zero, List.set_cons_succ]
                have hzs : (w.drew.alloc (.cells #[.int .i64 n] 3)).heap.size = w.heap.size + 1 := by go_simp
                rw [hzs] at hL0
                refine wpAnyH_ready (rs := [4]) (by kernel_rfl) (by simp) ?_
                refine (AllReadyH.cons rfl (fun KK hK => ?_) AllReadyH.nil)
                refine step_append_srcN rfl (.tmp 24) (.tmp 27) 29 29 rfl w.heap.size 3 i0 (.int .i64 0) 1 8 Try.underlying29 hi0 hz0 hz1 hz2 rfl _ _ _ (by rfl) hL0 _ _ _ (by rfl) (hS1.out _ hB0) q1 q2 hB0.size ?_
                intro va wa howna hgra
                have hba : Below w.heap.size w wa := Below.grown hB0 hgra hB0.size (fun k hk => ((hL0).lt k hk).1)
                refine hK.out _ _ hba (fun hHeld => ?_)
                clear hK KK
                try simp only [Act.put, List.setIfInBounds_toArray, List.set_cons_zero, List.set_cons_succ]
                have hNa := hid (ob_grown ((hN1.out).next (below_alloc _ (.cells #[] 3))) hgra (by simp))
                refine wpAnyH_ready (rs := [7]) (by kernel_rfl) (by simp) ?_
                refine (AllReadyH.cons rfl (fun KK hK => ?_) AllReadyH.nil)
                refine step_append_srcN rfl (.tmp 28) (.tmp 30) 29 29 rfl w.heap.size 3 i0 (.int .i64 0) 1 8 Try.underlying29 hi0 hz0 hz1 hz2 rfl _ _ _ (by rfl) howna _ _ _ (by rfl) (src_ob Try.underlying29 hNa.out) q3 q4 hba.size ?_
                intro vc wc hownc hgrc
                have hbc : Below w.heap.size w wc := Below.grown hba hgrc hba.size (fun k hk => ((howna).lt k hk).1)
                refine hK.out _ _ hbc (fun hHeld => ?_)
                clear hK KK
                try simp only [Act.put, List.setIfInBounds_toArray, List.set_cons_zero, List.set_cons_succ]
                refine wpAnyH_ready (rs := [11]) (by kernel_rfl) (by simp) ?_
                refine (AllReadyH.cons rfl (fun KK hK => ?_) AllReadyH.nil)
                refine step_append_srcN rfl (.tmp 31) (.tmp 34) 29 29 rfl w.heap.size 3 i0 (.int .i64 0) 1 8 Try.underlying29 hi0 hz0 hz1 hz2 rfl _ _ _ (by rfl) hownc _ _ _ (by rfl) (HS2.out _ hbc) q5 q6 hbc.size ?_
                intro vz wz hownz hgrz
                have hbz : Below w.heap.size w wz := Below.grown hbc hgrz hbc.size (fun k hk => ((hownc).lt k hk).1)
                refine hK.out _ _ hbz (fun hHeld => ?_)
                clear hK KK
                try simp only [Act.put, List.setIfInBounds_toArray, List.set_cons_zero, List.set_cons_succ]
                refine wpAnyH_ready (rs := [12]) (by kernel_rfl) (by simp) ?_
                refine (AllReadyH.cons rfl (fun KK hK => ?_) AllReadyH.nil)
                simp only [List.getElem_toArray, List.getElem_cons_succ, List.getElem_cons_zero]
                go_simp
                refine hK.out _ _ hbz (fun hHeld => ?_)
                clear hK KK
                try simp only [Act.put, List.setIfInBounds_toArray, List.set_cons_zero, List.set_cons_succ]
                refine wpAnyH_done (by kernel_rfl) ?_ _
                clear hHeld
                go_wp2_with fail
                go_ret
                exact InsRet.mk (by rw [Hcells.out]; exact hownz) (by rw [Hml.out]; omega) HP.out HZ.out (by rw [Hml.out]; omega) hbz
            · have b2 : ¬ (k : Int) < l.length := by omega
              clear hsame hstop hP hZ HH Hnm HI hend
              go_wp2_with fail
              refine wp_region_held_drew (S := fun X => Below w.heap.size w X) (by kernel_rfl) (Below.refl _ w).drew (fun hHeld => ?_)
              refine takeH 1 25 (.slice (some ad) l.length c) rfl rfl (by kernel_rfl) (by kernel_rfl) (by kernel_rfl) (fun _ _ _ h => h) (by kernel_rfl) (fun X hX => by clear hX; first | rfl | go_simp) hHeld ?_
              simp only [Act.put, List.setIfInBounds_toArray, List.set_cons_zero, List.set_cons_succ]
              refine takeH 2 26 (.int .i64 (k : Int)) rfl rfl (by kernel_rfl) (by kernel_rfl) (by kernel_rfl) (fun _ _ _ h => h) (by kernel_rfl) (fun X hX => by clear hX; first | rfl | go_simp) hHeld ?_
              simp only [Act.put, List.setIfInBounds_toArray, List.set_cons_zero, List.set_cons_succ]
              refine takeH 3 27 (.slice (some ad) k c) rfl rfl (by kernel_rfl) (by kernel_rfl) (by kernel_rfl) (fun _ _ _ h => h) (by kernel_rfl) (fun X hX => by clear hX; go_simp; try (intro h; omega)) hHeld ?_
              simp only [Act.put, List.setIfInBounds_toArray, List.set_cons_zero, List.set_cons_succ]
              refine takeH 5 29 (.int .i64 n) rfl rfl (by kernel_rfl) (by kernel_rfl) (by kernel_rfl) (fun _ _ _ h => h) (by kernel_rfl) (fun X hX => by clear hX; first | rfl | go_simp) hHeld ?_
              simp only [Act.put, List.setIfInBounds_toArray, List.set_cons_zero, List.set_cons_succ]
              refine takeH 8 32 (.slice (some ad) l.length c) rfl rfl (by kernel_rfl) (by kernel_rfl) (by kernel_rfl) (fun _ _ _ h => h) (by kernel_rfl) (fun X hX => by clear hX; first | rfl | go_simp) hHeld ?_
              simp only [Act.put, List.setIfInBounds_toArray, List.set_cons_zero, List.set_cons_succ]
              refine takeH 9 33 (.int .i64 (k : Int)) rfl rfl (by kernel_rfl) (by kernel_rfl) (by kernel_rfl) (fun _ _ _ h => h) (by kernel_rfl) (fun X hX => by clear hX; first | rfl | go_simp) hHeld ?_
              simp only [Act.put, List.setIfInBounds_toArray, List.set_cons_zero, List.set_cons_succ]
              refine takeH 10 34 (.slice (some (ad.add k)) (l.length - k) (c - k)) rfl rfl (by kernel_rfl) (by kernel_rfl) (by kernel_rfl) (fun _ _ _ h => h) (by kernel_rfl) (fun X hX => by clear hX; go_simp; try (intro h; omega)) hHeld ?_
              simp only [Act.put, List.setIfInBounds_toArray, List.set_cons_zero, List.set_cons_succ]
              have hd0 : Below w.heap.size w w.drew := (Below.refl _ w).drew
              refine wpAnyH_ready (rs := [0, 6]) (by kernel_rfl) (by simp) ?_
              refine (AllReadyH.cons rfl (fun KK hK => ?_) (AllReadyH.cons rfl (fun KK hK => ?_) AllReadyH.nil))
              · skip
                simp only [List.getElem_toArray, List.getElem_cons_succ, List.getElem_cons_zero]
                go_simp
                have hB0 := Below.alloc hd0 hd0.size (.cells #[] 3)
                have hL0 := World.ownsRow_lit (base := w.heap.size) (e := 3) (size := 1) w.drew #[] 0 hd0.size (by unfold maxLen; omega) rfl
                refine hK.out _ _ hB0 (fun hHeld => ?_)
                clear hK KK
                try simp only [Act.put, List.setIfInBounds_toArray, List.set_cons_zero, List.set_cons_succ]
                refine wpAnyH_ready (rs := [4, 6]) (by kernel_rfl) (by simp) ?_
                refine (AllReadyH.cons rfl (fun KK hK => ?_) (AllReadyH.cons rfl (fun KK hK => ?_) AllReadyH.nil))
                · skip
                  refine step_append_srcN rfl (.tmp 24) (.tmp 27) 29 29 rfl w.heap.size 3 i0 (.int .i64 0) 1 8 Try.underlying29 hi0 hz0 hz1 hz2 rfl _ _ _ (by rfl) hL0 _ _ _ (by rfl) (hS1.out _ hB0) q1 q2 hB0.size ?_
                  intro va wa howna hgra
                  have hba : Below w.heap.size w wa := Below.grown hB0 hgra hB0.size (fun k hk => ((hL0).lt k hk).1)
                  refine hK.out _ _ hba (fun hHeld => ?_)
                  clear hK KK
                  try simp only [Act.put, List.setIfInBounds_toArray, List.set_cons_zero, List.set_cons_succ]
                  refine wpAnyH_ready (rs := [6]) (by kernel_rfl) (by simp) ?_
                  refine (AllReadyH.cons rfl (fun KK hK => ?_) AllReadyH.nil)
                  simp only [List.getElem_toArray, List.getElem_cons_succ, List.getElem_cons_zero]
                  go_simp
                  have hB1 := Below.alloc hba hba.size (.cells #[.int .i64 n] 3)
                  have hN1 := hid (Ob.new wa [Value.int .i64 n] 3)
                  refine hK.out _ _ hB1 (fun hHeld => ?_)
                  clear hK KK
                  try simp only [Act.put, List.setIfInBounds_toArray, List.set_cons_zero, List.set_cons_succ]
                  have hownb := hid (own_below howna (below_alloc wa (.cells #[.int .i64 n] 3)))
                  refine wpAnyH_ready (rs := [7]) (by kernel_rfl) (by simp) ?_
                  refine (AllReadyH.cons rfl (fun KK hK => ?_) AllReadyH.nil)
                  refine step_append_srcN rfl (.tmp 28) (.tmp 30) 29 29 rfl w.heap.size 3 i0 (.int .i64 0) 1 8 Try.underlying29 hi0 hz0 hz1 hz2 rfl _ _ _ (by rfl) hownb.out _ _ _ (by rfl) (src_ob Try.underlying29 hN1.out) q3 q4 hB1.size ?_
                  intro vc wc hownc hgrc
                  have hbc : Below w.heap.size w wc := Below.grown hB1 hgrc hB1.size (fun k hk => ((hownb.out).lt k hk).1)
                  refine hK.out _ _ hbc (fun hHeld => ?_)
                  clear hK KK
                  try simp only [Act.put, List.setIfInBounds_toArray, List.set_cons_zero, List.set_cons_succ]
                  refine wpAnyH_ready (rs := [11]) (by kernel_rfl) (by simp) ?_
                  refine (AllReadyH.cons rfl (fun KK hK => ?_) AllReadyH.nil)
                  refine step_append_srcN rfl (.tmp 31) (.tmp 34) 29 29 rfl w.heap.size 3 i0 (.int .i64 0) 1 8 Try.underlying29 hi0 hz0 hz1 hz2 rfl _ _ _ (by rfl) hownc _ _ _ (by rfl) (HS2.out _ hbc) q5 q6 hbc.size ?_
                  intro vz wz hownz hgrz
                  have hbz : Below w.heap.size w wz := Below.grown hbc hgrz hbc.size (fun k hk => ((hownc).lt k hk).1)
                  refine hK.out _ _ hbz (fun hHeld => ?_)
                  clear hK KK
                  try simp only [Act.put, List.setIfInBounds_toArray, List.set_cons_zero, List.set_cons_succ]
                  refine wpAnyH_ready (rs := [12]) (by kernel_rfl) (by simp) ?_
                  refine (AllReadyH.cons rfl (fun KK hK => ?_) AllReadyH.nil)
                  simp only [List.getElem_toArray, List.getElem_cons_succ, List.getElem_cons_zero]
                  go_simp
                  refine hK.out _ _ hbz (fun hHeld => ?_)
                  clear hK KK
                  try simp only [Act.put, List.setIfInBounds_toArray, List.set_cons_zero, List.set_cons_succ]
                  refine wpAnyH_done (by kernel_rfl) ?_ _
                  clear hHeld
                  go_wp2_with fail
                  go_ret
                  exact InsRet.mk (by rw [Hcells.out]; exact hownz) (by rw [Hml.out]; omega) HP.out HZ.out (by rw [Hml.out]; omega) hbz
                · skip
                  simp only [List.getElem_toArray, List.getElem_cons_succ, List.getElem_cons_zero]
                  go_simp
                  have hB1 := Below.alloc hB0 hB0.size (.cells #[.int .i64 n] 3)
                  have hN1 := hid (Ob.new (w.drew.alloc (.cells #[] 3)) [Value.int .i64 n] 3)
                  refine hK.out _ _ hB1 (fun hHeld => ?_)
                  clear hK KK
                  try simp only [Act.put, List.setIfInBounds_toArray, List.set_cons_zero, List.set_cons_succ]
                  have hzs : (w.drew.alloc (.cells #[] 3)).heap.size = w.heap.size + 1 := by go_simp
                  rw [hzs] at hN1
                  have hL1 := hid (own_below hL0 (below_alloc _ (.cells #[.int .i64 n] 3)))
                  refine wpAnyH_ready (rs := [4]) (by kernel_rfl) (by simp) ?_
                  refine (AllReadyH.cons rfl (fun KK hK => ?_) AllReadyH.nil)
                  refine step_append_srcN rfl (.tmp 24) (.tmp 27) 29 29 rfl w.heap.size 3 i0 (.int .i64 0) 1 8 Try.underlying29 hi0 hz0 hz1 hz2 rfl _ _ _ (by rfl) hL1.out _ _ _ (by rfl) (hS1.out _ hB1) q1 q2 hB1.size ?_
                  intro va wa howna hgra
                  have hba : Below w.heap.size w wa := Below.grown hB1 hgra hB1.size (fun k hk => ((hL1.out).lt k hk).1)
                  refine hK.out _ _ hba (fun hHeld => ?_)
                  clear hK KK
                  try simp only [Act.put, List.setIfInBounds_toArray, List.set_cons_zero, List.set_cons_succ]
                  have hNa := hid (ob_grown hN1.out hgra (by simp))
                  refine wpAnyH_ready (rs := [7]) (by kernel_rfl) (by simp) ?_
                  refine (AllReadyH.cons rfl (fun KK hK => ?_) AllReadyH.nil)
                  refine step_append_srcN rfl (.tmp 28) (.tmp 30) 29 29 rfl w.heap.size 3 i0 (.int .i64 0) 1 8 Try.underlying29 hi0 hz0 hz1 hz2 rfl _ _ _ (by rfl) howna _ _ _ (by rfl) (src_ob Try.underlying29 hNa.out) q3 q4 hba.size ?_
                  intro vc wc hownc hgrc
                  have hbc : Below w.heap.size w wc := Below.grown hba hgrc hba.size (fun k hk => ((howna).lt k hk).1)
                  refine hK.out _ _ hbc (fun hHeld => ?_)
                  clear hK KK
                  try simp only [Act.put, List.setIfInBounds_toArray, List.set_cons_zero, List.set_cons_succ]
                  refine wpAnyH_ready (rs := [11]) (by kernel_rfl) (by simp) ?_
                  refine (AllReadyH.cons rfl (fun KK hK => ?_) AllReadyH.nil)
                  refine step_append_srcN rfl (.tmp 31) (.tmp 34) 29 29 rfl w.heap.size 3 i0 (.int .i64 0) 1 8 Try.underlying29 hi0 hz0 hz1 hz2 rfl _ _ _ (by rfl) hownc _ _ _ (by rfl) (HS2.out _ hbc) q5 q6 hbc.size ?_
                  intro vz wz hownz hgrz
                  have hbz : Below w.heap.size w wz := Below.grown hbc hgrz hbc.size (fun k hk => ((hownc).lt k hk).1)
                  refine hK.out _ _ hbz (fun hHeld => ?_)
                  clear hK KK
                  try simp only [Act.put, List.setIfInBounds_toArray, List.set_cons_zero, List.set_cons_succ]
                  refine wpAnyH_ready (rs := [12]) (by kernel_rfl) (by simp) ?_
                  refine (AllReadyH.cons rfl (fun KK hK => ?_) AllReadyH.nil)
                  simp only [List.getElem_toArray, List.getElem_cons_succ, List.getElem_cons_zero]
                  go_simp
                  refine hK.out _ _ hbz (fun hHeld => ?_)
                  clear hK KK
                  try simp only [Act.put, List.setIfInBounds_toArray, List.set_cons_zero, List.set_cons_succ]
                  refine wpAnyH_done (by kernel_rfl) ?_ _
                  clear hHeld
                  go_wp2_with fail
                  go_ret
                  exact InsRet.mk (by rw [Hcells.out]; exact hownz) (by rw [Hml.out]; omega) HP.out HZ.out (by rw [Hml.out]; omega) hbz
              · skip
                simp only [List.getElem_toArray, List.getElem_cons_succ, List.getElem_cons_zero]
                go_simp
                have hB1 := Below.alloc hd0 hd0.size (.cells #[.int .i64 n] 3)
                have hN1 := hid (Ob.new w.drew [Value.int .i64 n] 3)
                refine hK.out _ _ hB1 (fun hHeld => ?_)
                clear hK KK
                try simp only [Act.put, List.setIfInBounds_toArray, List.set_cons_zero, List.set_cons_succ]
                refine wpAnyH_ready (rs := [0]) (by kernel_rfl) (by simp) ?_
                refine (AllReadyH.cons rfl (fun KK hK => ?_) AllReadyH.nil)
                simp only [List.getElem_toArray, List.getElem_cons_succ, List.getElem_cons_zero]
                go_simp
                have hB0 := Below.alloc hB1 hB1.size (.cells #[] 3)
                have hL0 := World.ownsRow_lit (base := w.heap.size) (e := 3) (size := 1) (w.drew.alloc (.cells #[.int .i64 n] 3)) #[] 0 hB1.size (by unfold maxLen; omega) rfl
                refine hK.out _ _ hB0 (fun hHeld => ?_)
                clear hK KK
                try simp only [Act.put, List.setIfInBounds_toArray, List.set_cons_zero, List.set_cons_succ]
                have hzs : (w.drew.alloc (.cells #[.int .i64 n] 3)).heap.size = w.heap.size + 1 := by go_simp
                rw [hzs] at hL0
                refine wpAnyH_ready (rs := [4]) (by kernel_rfl) (by simp) ?_
                refine (AllReadyH.cons rfl (fun KK hK => ?_) AllReadyH.nil)
                refine step_append_srcN rfl (.tmp 24) (.tmp 27) 29 29 rfl w.heap.size 3 i0 (.int .i64 0) 1 8 Try.underlying29 hi0 hz0 hz1 hz2 rfl _ _ _ (by rfl) hL0 _ _ _ (by rfl) (hS1.out _ hB0) q1 q2 hB0.size ?_
                intro va wa howna hgra
                have hba : Below w.heap.size w wa := Below.grown hB0 hgra hB0.size (fun k hk => ((hL0).lt k hk).1)
                refine hK.out _ _ hba (fun hHeld => ?_)
                clear hK KK
                try simp only [Act.put, List.setIfInBounds_toArray, List.set_cons_zero, List.set_cons_succ]
                have hNa := hid (ob_grown ((hN1.out).next (below_alloc _ (.cells #[] 3))) hgra (by simp))
                refine wpAnyH_ready (rs := [7]) (by kernel_rfl) (by simp) ?_
                refine (AllReadyH.cons rfl (fun KK hK => ?_) AllReadyH.nil)
                refine step_append_srcN rfl (.tmp 28) (.tmp 30) 29 29 rfl w.heap.size 3 i0 (.int .i64 0) 1 8 Try.underlying29 hi0 hz0 hz1 hz2 rfl _ _ _ (by rfl) howna _ _ _ (by rfl) (src_ob Try.underlying29 hNa.out) q3 q4 hba.size ?_
                intro vc wc hownc hgrc
                have hbc : Below w.heap.size w wc := Below.grown hba hgrc hba.size (fun k hk => ((howna).lt k hk).1)
                refine hK.out _ _ hbc (fun hHeld => ?_)
                clear hK KK
                try simp only [Act.put, List.setIfInBounds_toArray, List.set_cons_zero, List.set_cons_succ]
                refine wpAnyH_ready (rs := [11]) (by kernel_rfl) (by simp) ?_
                refine (AllReadyH.cons rfl (fun KK hK => ?_) AllReadyH.nil)
                refine step_append_srcN rfl (.tmp 31) (.tmp 34) 29 29 rfl w.heap.size 3 i0 (.int .i64 0) 1 8 Try.underlying29 hi0 hz0 hz1 hz2 rfl _ _ _ (by rfl) hownc _ _ _ (by rfl) (HS2.out _ hbc) q5 q6 hbc.size ?_
                intro vz wz hownz hgrz
                have hbz : Below w.heap.size w wz := Below.grown hbc hgrz hbc.size (fun k hk => ((hownc).lt k hk).1)
                refine hK.out _ _ hbz (fun hHeld => ?_)
                clear hK KK
                try simp only [Act.put, List.setIfInBounds_toArray, List.set_cons_zero, List.set_cons_succ]
                refine wpAnyH_ready (rs := [12]) (by kernel_rfl) (by simp) ?_
                refine (AllReadyH.cons rfl (fun KK hK => ?_) AllReadyH.nil)
                simp only [List.getElem_toArray, List.getElem_cons_succ, List.getElem_cons_zero]
                go_simp
                refine hK.out _ _ hbz (fun hHeld => ?_)
                clear hK KK
                try simp only [Act.put, List.setIfInBounds_toArray, List.set_cons_zero, List.set_cons_succ]
                refine wpAnyH_done (by kernel_rfl) ?_ _
                clear hHeld
                go_wp2_with fail
                go_ret
                exact InsRet.mk (by rw [Hcells.out]; exact hownz) (by rw [Hml.out]; omega) HP.out HZ.out (by rw [Hml.out]; omega) hbz
end Go.Proofs.Ytgkplcipplpobaa
