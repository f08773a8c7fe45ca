/- Contracts of the program's own functions of layer 14 (course): stands, together; the library's Contains, ContainsFunc, IndexFunc. -/
import Derived.Test.YtgkplcipplpobaaCrtD
import Derived.Test.YtgkplcipplpobaaCrsH
namespace Go.Proofs.Ytgkplcipplpobaa
open Go.RowKit
open Whn (Gr Wh)

/-- hands out whether it is so -/
def IxS (P : Prop) (w : World) (e : Ending) (w' : World) : Prop := ∃ z, e = .returned (.int .i64 z) ∧ (0 ≤ z ↔ P) ∧ Below w.heap.size w w'
def CtRet (P : Prop) (w : World) (e : Ending) (w' : World) : Prop := ∃ b, e = .returned (.bool b) ∧ (b = true ↔ P) ∧ Below w.heap.size w w'
set_option maxRecDepth 4000 in
set_option maxHeartbeats 1000000 in
theorem p_IndexI (A : Option Addr) (c : Nat) (l : List Int) (hm : l.length ≤ maxLen) (x : Int) (w : World) (h : Its w w.heap.size A l) :
    Calls Try.prog 75 #[.slice A l.length c, .int .i64 x] w (IxS (x ∈ l) w) := by
  unfold maxLen at hm
  have H := hid h
  clear h
  go_enter Try.func75, Try.ntmps75
  go_wp2
  go_loopw [8] (fun i wr => ∃ (k : Nat), i = .int .i64 k ∧ k ≤ l.length ∧ w = wr ∧ Hid (∀ y ∈ l.take k, y ≠ x)) (fun i _ => l.length - (intOf i).toNat)
  case atStart => exact ⟨0, rfl, Nat.zero_le _, rfl, hid (fun y hy => by simp at hy)⟩
  case round =>
    obtain ⟨k, rfl, hk, rfl, hsame⟩ := hrel
    by_cases hlt : k < l.length
    · obtain ⟨ad, y, rfl, had, hx, hcy⟩ := Its.get H.out hlt
      have b1 : (0 : Int) ≤ (k : Int) := by omega
      have b2 : (k : Int) < l.length := by omega
      by_cases hxy : x = y
      · have q1 : (x == y) = true := by rw [beq_iff_eq]; exact hxy
        have Hxy := hid hxy
        clear hxy
        go_wp2_with fail
        go_ret
        exact ⟨k, rfl, ⟨fun _ => by rw [Hxy.out]; exact List.mem_of_getElem? hx.out, fun _ => by omega⟩, Below.refl _ _⟩
      · have q1 : (x == y) = false := by rw [beq_eq_false_iff_ne]; exact hxy
        have hne := hid (fun (e : y = x) => hxy e.symm)
        clear hxy
        go_wp2_with fail
        refine ⟨⟨k + 1, by go_num, by omega, trivial, ?_⟩, by simp [intOf]; omega⟩
        refine hid (fun z hz => ?_)
        rw [List.take_add_one, hx.out, List.mem_append] at hz
        rcases hz with hz | hz
        · exact hsame.out z hz
        · simp at hz
          rw [hz]; exact hne.out
    · have hall := hid (show x ∉ l from fun hx => hsame.out x (by rw [List.take_of_length_le (by omega)]; exact hx) rfl)
      have b2 : ¬ (k : Int) < l.length := by omega
      go_wp2_with fail
      go_ret
      exact ⟨-1, rfl, ⟨fun h => absurd h (by decide), fun h => absurd h hall.out⟩, Below.refl _ _⟩
set_option maxRecDepth 4000 in
theorem p_ContI (A : Option Addr) (n c : Nat) (l : List Int) (hn : l.length = n) (hm : l.length ≤ maxLen) (x : Int) (w : World) (h : Its w w.heap.size A l) :
    Calls Try.prog 59 #[.slice A n c, .int .i64 x] w (CtRet (x ∈ l) w) := by
  subst hn
  have HI := hid (p_IndexI A c l hm x w h)
  clear h
  go_enter Try.func59, Try.ntmps59
  go_wp2_with fail
  refine (HI.out).mono ?_
  rintro e w1 ⟨z, rfl, hz, b1⟩
  have Hz := hid hz
  clear hz
  go_wp2_with fail
  go_ret
  exact ⟨_, rfl, by rw [decide_eq_true_iff]; exact Hz.out, b1⟩
theorem CtRet.d {P : Prop} [d : Decidable P] {w w' : World} {e : Ending} (h : CtRet P w e w') : Did (.bool (decide P)) w e w' := by
  obtain ⟨b, he, hb, hw⟩ := h
  refine ⟨?_, hw⟩
  rw [he]
  congr 2
  rw [Bool.eq_iff_iff, hb, decide_eq_true_iff]
theorem p_ContD (A : Option Addr) (n c : Nat) (l : List Int) (hn : l.length = n) (hm : l.length ≤ maxLen) (x : Int) (w : World) (h : Its w w.heap.size A l) :
    Calls Try.prog 59 #[.slice A n c, .int .i64 x] w (Did (.bool (decide (x ∈ l))) w) := (p_ContI A n c l hn hm x w h).mono fun _ _ h => h.d
set_option maxRecDepth 4000 in
theorem p_stand1 (A : Option Addr) (c : Nat) (l : List Int) (hm : l.length ≤ maxLen) (Q : Nat) (x : Int) (w : World) (h : Its w w.heap.size A l) (hq : w.cell? ⟨Q, 0, none⟩ = some (.int .i64 x)) :
    Calls Try.prog 77 #[.slice A l.length c, .pointer (some ⟨Q, 0, none⟩)] w (Did (.bool (decide (x ∈ l))) w) := by
  have HI := hid (p_ContD A l.length c l rfl hm x w h)
  clear h
  go_enter Try.func77, Try.ntmps77
  go_wp2_with fail
  refine (HI.out).mono ?_
  rintro e w1 ⟨rfl, b1⟩
  clear hq
  go_wp2_with fail
  go_ret
  exact Did.mk rfl b1
theorem ex_next {α : Type} {P : α → Prop} {l : List α} {k : Nat} {x : α} (hx : l[k]? = some x) (h : ∀ y ∈ l.take k, ¬ P y) (hn : ¬ P x) : ∀ y ∈ l.take (k + 1), ¬ P y := fun y hy => by
  rw [List.take_add_one, hx, List.mem_append] at hy
  rcases hy with hy | hy
  · exact h y hy
  · simp at hy
    rw [hy]; exact hn
set_option maxRecDepth 20000 in
set_option maxHeartbeats 4000000 in
theorem p_IxStand (A : Option Addr) (c : Nat) (ls : List (List Int)) (hl : Lsok ls) (Q : Nat) (x : Int) (w : World) (h : Rows2 w w.heap.size A ls) (hq : w.cell? ⟨Q, 0, none⟩ = some (.int .i64 x)) :
    Calls Try.prog 84 #[.slice A ls.length c, .func (.func 77) #[] #[.pointer (some ⟨Q, 0, none⟩)]] w (IxS (∃ p ∈ ls, x ∈ p) w) := by
  have hm := hl.1
  unfold maxLen at hm
  have HL := hid hl.2
  have HP := hid (fun A c l hm X h hq => p_stand1 A c l hm Q x X h hq)
  have H := hid h
  have HQ := hid hq
  have HQl := hid (show Q < w.heap.size from World.block_lt_of_cell? _ _ hq)
  clear h hl hq
  go_enter Try.func84, Try.ntmps84
  go_wp2_with fail
  go_loopw [8] (fun i wr => ∃ (k : Nat), i = .int .i64 k ∧ k ≤ ls.length ∧ Hid (Below w.heap.size w wr) ∧ Hid (∀ p ∈ ls.take k, ¬ x ∈ p)) (fun i _ => ls.length - (intOf i).toNat)
  case atStart => exact ⟨0, rfl, Nat.zero_le _, hid (Below.refl _ _), hid (fun p hp => by simp at hp)⟩
  case round =>
    obtain ⟨k, rfl, hk, HB, hsame⟩ := hrel
    by_cases hlt : k < ls.length
    · obtain ⟨ad, Ak, ck, v, rfl, hadb, hx, hxl, hcx, hrx, hckx⟩ := H.out.get hlt
      have b1 : (0 : Int) ≤ (k : Int) := by omega
      have b2 : (k : Int) < ls.length := by omega
      have hbx : (ad.add k).block < w.heap.size := by rw [add_block]; exact hadb
      have hcx1 := (HB.out.cell (p := ad.add k) hbx).trans hcx
      have HP1 := hid (HP.out Ak ck v (HL.out v hxl).1 wr ((hrx.below HB.out (Nat.le_refl _)).more HB.out.size) ((HB.out.cell (p := ⟨Q, 0, none⟩) HQl.out).trans HQ.out))
      clear hrx hckx hcx HP
      go_wp2_with fail
      refine (HP1.out).mono ?_
      rintro e Y ⟨rfl, bz⟩
      have HB2 := hid (HB.out.trans (bz.mono HB.out.size))
      clear hcx1 bz HP1
      by_cases hR : x ∈ v
      · have q1 : decide (x ∈ v) = true := decide_eq_true hR
        have hres := hid (show ∃ p ∈ ls, x ∈ p from ⟨v, hxl, hR⟩)
        clear hR hsame
        go_wp2_with fail
        go_ret
        exact ⟨k, rfl, ⟨fun _ => hres.out, fun _ => by omega⟩, HB2.out⟩
      · have q1 : decide (x ∈ v) = false := decide_eq_false hR
        have hn := hid (ex_next (P := fun p => x ∈ p) hx.out hsame.out hR)
        clear hR hsame
        go_wp2_with fail
        exact ⟨⟨k + 1, by go_num, by omega, HB2, hn⟩, by simp [intOf]; omega⟩
    · have b2 : ¬ (k : Int) < ls.length := by omega
      have hall := hid (show ¬ ∃ p ∈ ls, x ∈ p from fun ⟨p, hp, hx⟩ => hsame.out p (by rw [List.take_of_length_le (by omega)]; exact hp) hx)
      clear hsame HP
      go_wp2_with fail
      go_ret
      exact ⟨-1, rfl, ⟨fun h => absurd h (by decide), fun h => absurd h hall.out⟩, HB.out⟩
set_option maxRecDepth 4000 in
theorem p_CtStand (A : Option Addr) (c : Nat) (ls : List (List Int)) (hl : Lsok ls) (Q : Nat) (x : Int) (w : World) (h : Rows2 w w.heap.size A ls) (hq : w.cell? ⟨Q, 0, none⟩ = some (.int .i64 x)) :
    Calls Try.prog 76 #[.slice A ls.length c, .func (.func 77) #[] #[.pointer (some ⟨Q, 0, none⟩)]] w (CtRet (∃ p ∈ ls, x ∈ p) w) := by
  have HI := hid (p_IxStand A c ls hl Q x w h hq)
  clear h hq
  go_enter Try.func76, Try.ntmps76
  go_wp2_with fail
  refine (HI.out).mono ?_
  rintro e w1 ⟨z, rfl, hz, b1⟩
  have Hz := hid hz
  clear hz
  go_wp2_with fail
  go_ret
  exact ⟨_, rfl, by rw [decide_eq_true_iff]; exact Hz.out, b1⟩
/-- does a class stand in a Part? -/
def stB (ls : List (List Int)) (x : Int) : Bool := ls.any fun p => decide (x ∈ p)
theorem stB_iff (ls : List (List Int)) (x : Int) : stB ls x = true ↔ ∃ p ∈ ls, x ∈ p := by
  unfold stB
  rw [List.any_eq_true]
  constructor
  · rintro ⟨p, hp, h⟩; exact ⟨p, hp, of_decide_eq_true h⟩
  · rintro ⟨p, hp, h⟩; exact ⟨p, hp, decide_eq_true h⟩
set_option maxRecDepth 4000 in
theorem p_stands (B : Option Addr) (d : Nat) (ls : List (List Int)) (hl : Lsok ls) (x : Int) (w : World) (h : Rows2 w w.heap.size B ls) :
    Calls Try.prog 60 #[.agg #[.slice B ls.length d], .int .i64 x] w (Did (.bool (stB ls x)) w) := by
  have HI := hid (fun Q X h hq => p_CtStand B d ls hl Q x X h hq)
  have H := hid h
  have Hs := hid (stB_iff ls x)
  generalize stB ls x = sb at *
  obtain ⟨P, W, hP, hW, K, hb0⟩ := (Mem.nil w).one [.slice B ls.length d] 42
  obtain ⟨Q, V, hQ, hV, K1, hb1⟩ := K.out.one [.int .i64 x] 3
  have c0 := K1.out.cell (b := P) (cs := [.slice B ls.length d]) (t := 42) (by simp) (k := 0) rfl
  have c1 := hid (K1.out.cell (b := Q) (cs := [.int .i64 x]) (t := 3) (by simp) (k := 0) rfl)
  clear h hb0 hb1 K
  go_enter Try.func60, Try.ntmps60
  go_wp2_with fail
  refine (HI.out Q _ (H.out.next K1.out.2) c1.out).mono ?_
  rintro e Y ⟨b, rfl, hb, bz⟩
  have Hb := hid (show b = sb by rw [Bool.eq_iff_iff, hb, Hs.out])
  have K2 := hid (K1.out.next bz)
  clear c0 hP hW hQ hV bz hb
  go_wp2_with fail
  go_ret
  exact Did.mk (by rw [Hb.out]; rfl) K2.out.2
theorem holdN_st (l : List ClA) (ls : List (List Int)) (r : List Int) (n : Int) : holdN l ls r n = !(stB ls (ovr l n) && !decide (ovr l n ∈ r)) := by
  unfold holdN stB
  cases decide (ovr l n ∈ r) with
  | true => simp
  | false =>
    rw [Bool.not_false, Bool.and_true, List.not_any_eq_all_not]
    simp
set_option maxRecDepth 20000 in
set_option maxHeartbeats 4000000 in
theorem p_together (A : Option Addr) (c : Nat) (l : List ClA) (B : Option Addr) (d : Nat) (ls : List (List Int)) (hl : Lsok ls) (C : Option Addr) (e : Nat) (r : List Int) (hrm : r.length ≤ maxLen) (hrl : ∀ n ∈ r, 0 ≤ n ∧ n < (l.length : Nat)) (w : World) (h : Es enC w w.heap.size A l) (hB : Rows2 w w.heap.size B ls) (hC : Its w w.heap.size C r) :
    Calls Try.prog 45 #[.slice A l.length c, .agg #[.slice B ls.length d], .slice C r.length e] w (Did (.bool (holdC l ls r)) w) := by
  unfold maxLen at hrm
  have HS := hid (fun x X h => p_stands B d ls hl x X h)
  have HC := hid (fun x X h => p_ContD C r.length e r rfl (by unfold maxLen; exact hrm) x X h)
  have Hr := hid (show holdC l ls r = r.all (holdN l ls r) from rfl)
  have Hn := hid (fun n => holdN_st l ls r n)
  have Hcell := hid (fun z h0 h1 => over_cell h (z := z) h0 h1)
  have Hrl := hid hrl
  have HBr := hid hB
  have HCr := hid hC
  generalize holdC l ls r = q at *
  obtain ⟨P, W, hP, hW, K, hb0⟩ := (Mem.nil w).one [.slice B ls.length d] 42
  clear h hB hC hb0 hl hrl
  go_enter Try.func45, Try.ntmps45
  go_wp2_with fail
  clear hP hW
  go_loopw [12] (fun i wr => ∃ (k : Nat), i = .int .i64 k ∧ k ≤ r.length ∧ Hid (Mem w wr [(P, [.slice B ls.length d], 42)]) ∧ Hid (∀ i, i < k → ∀ n, r[i]? = some n → holdN l ls r n = true)) (fun i _ => r.length - (intOf i).toNat)
  case atStart => exact ⟨0, rfl, Nat.zero_le _, K, hid (fun i hi => absurd hi (Nat.not_lt_zero i))⟩
  case round =>
    clear K
    obtain ⟨k, rfl, hk, K, hsame⟩ := hrel
    by_cases hlt : k < r.length
    · obtain ⟨ac, n, rfl, hacb, hn, hcn⟩ := Its.get HCr.out hlt
      have b1 : (0 : Int) ≤ (k : Int) := by omega
      have b2 : (k : Int) < r.length := by omega
      have hbc : (ac.add k).block < w.heap.size := by rw [add_block]; exact hacb
      have hcn1 := (K.out.2.cell (p := ac.add k) hbc).trans hcn
      have hnr := Hrl.out n (List.mem_of_getElem? hn.out)
      obtain ⟨a, ad, hna, hal, rfl, hadb, hco⟩ := Hcell.out n hnr.1 hnr.2
      have hco1 := (K.out.2.cell (p := ⟨(ad.add (a * 7)).block, (ad.add (a * 7)).off + 6, none⟩) (by show (ad.add (a * 7)).block < _; rw [add_block]; exact hadb)).trans hco
      subst hna
      have i1 : (0 : Int) ≤ (a : Int) := by omega
      have i2 : (a : Int) < (l.length : Int) := by omega
      have c0 := K.out.cell (b := P) (cs := [.slice B ls.length d]) (t := 42) (by simp) (k := 0) rfl
      have Hn1 := hid (Hn.out (a : Int))
      have Hbad := hid (fun (h : holdN l ls r (a : Int) = false) => all_no hn.out h)
      have Hnx := hid (fun (h : holdN l ls r (a : Int) = true) => all_next hn.out h hsame.out)
      generalize holdN l ls r (a : Int) = hv at *
      obtain ⟨o, ho⟩ : ∃ o, ovr l (a : Int) = o := ⟨_, rfl⟩
      rw [ho] at hco1 Hn1
      have HS1 := hid (fun X h => HS.out o X h)
      have HC1 := hid (fun X h => HC.out o X h)
      generalize stB ls o = sb at *
      clear hcn hco ho Hcell hsame HS HC Hn
      go_wp2_with fail
      refine (HS1.out _ ((HBr.out.below K.out.2 (Nat.le_refl _)).more K.out.2.size)).mono ?_
      rintro e1 Y ⟨rfl, bz⟩
      have K2 := hid (K.out.next bz)
      clear c0 hcn1 hco1 bz K
      cases sb with
      | false =>
        have hn2 := hid (Hnx.out (by rw [Hn1.out]; rfl))
        clear Hbad Hnx
        go_wp2_with fail
        exact ⟨⟨k + 1, by go_num, by omega, K2, hn2⟩, by simp [intOf]; omega⟩
      | true =>
        rw [Bool.true_and, Bool.not_not] at Hn1
        go_wp2_with fail
        refine (HC1.out _ ((HCr.out.below K2.out.2 (Nat.le_refl _)).more K2.out.2.size)).mono ?_
        rintro e1 Y2 ⟨rfl, bz⟩
        have K3 := hid (K2.out.next bz)
        clear bz K2
        cases hR : decide (o ∈ r) with
        | true =>
          have hn2 := hid (Hnx.out (by rw [Hn1.out, hR]))
          clear Hbad Hnx
          go_wp2_with fail
          exact ⟨⟨k + 1, by go_num, by omega, K3, hn2⟩, by simp [intOf]; omega⟩
        | false =>
          have hb := hid (Hbad.out (by rw [Hn1.out, hR]))
          clear Hbad Hnx
          go_wp2_with fail
          go_ret
          exact Did.mk (by rw [Hr.out, hb.out]; rfl) K3.out.2
    · have b2 : ¬ (k : Int) < r.length := by omega
      have hn2 := hid (all_yes (fun i hi => hsame.out i (by omega)))
      clear hsame
      go_wp2_with fail
      go_ret
      exact Did.mk (by rw [Hr.out, hn2.out]; rfl) K.out.2
end Go.Proofs.Ytgkplcipplpobaa
