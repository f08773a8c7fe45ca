/- Contracts of the program's own functions of layer 16 (many): Over, Broken, Least; all that the laws ask of them. -/
import Derived.Test.YtjjmajhldpoobaaMnyU
import Derived.Test.YtjjmajhldpoobaaMnyS
import Derived.Test.YtjjmajhldpoobaaPerEm
import Derived.Test.YtjjmajhldpoobaaMnyI
namespace Go.Proofs.Ytjjmajhldpoobaa
open Go.RowKit
open Whn (Gr Wh)

theorem ovr_none {k : Int} (h21 : ¬ k = 21) (h22 : ¬ k = 22) (h23 : ¬ k = 23) (h24 : ¬ k = 24) (g : Gr) (a b : Int) (l : List Wh) : Whn.ovr g k a b l = 0 := by
  unfold Whn.ovr
  rw [if_neg h21]
  have : ∀ n, Whn.sumN (Whn.ovrD g k (max a 0) b l) n = 0 := by
    intro n
    induction n with
    | zero => rfl
    | succ n ih => rw [Whn.sumN, ih]; unfold Whn.ovrD; rw [if_neg h22, if_neg h23, if_neg h24]; rfl
  exact this _
set_option maxRecDepth 20000 in
set_option maxHeartbeats 4000000 in
theorem p_OverM (hB : BySt) (hU : BusySt) (g : Gr) (k a b : Int) (ha : I64 a) (l : List Wh) (A : Option Addr) (c : Nat) (hok : ∀ y ∈ l, Wok y) (hm : l.length ≤ 10000) (w : World) (h : Whs w w.heap.size A l) :
    Calls Try.prog 20 #[gv g, .int .i64 k, .int .i64 a, .int .i64 b, .slice A l.length c] w (Did (.int .i64 (Whn.ovr g k a b l)) w) := by
  have H := hid h
  have ha2 : 0 ≤ max a 0 ∧ I64 (max a 0) := by unfold I64 at *; omega
  have HDy := hid (fun X h => p_DaysM hB g l A c hok hm X h)
  have HLo := hid (fun X h => p_load hU g (max a 0) b l A c hok hm ha2 X h)
  have HBr := hid (fun X h => p_breaks hB g (max a 0) b l A c hok hm ha2 X h)
  have HLb := hid (fun X h => p_longBlocks hB g (max a 0) b l A c hok hm ha2 X h)
  have hdc := Whn.dayC_bnd g l
  have e21 : Whn.ovr g 21 a b l = max (Whn.dayC g l - max a 0) 0 := rfl
  have e22 : Whn.sumN (Whn.ovrD g 22 (max a 0) b l) (Whn.daysN g) = Whn.ovr g 22 a b l := rfl
  have e23 : Whn.sumN (Whn.ovrD g 23 (max a 0) b l) (Whn.daysN g) = Whn.ovr g 23 a b l := rfl
  have e24 : Whn.sumN (Whn.ovrD g 24 (max a 0) b l) (Whn.daysN g) = Whn.ovr g 24 a b l := rfl
  rw [e22] at HLo
  rw [e23] at HBr
  rw [e24] at HLb
  clear e22 e23 e24
  unfold I64 at ha ha2
  generalize hmx : max a 0 = a2 at *
  have m1 : (if a < 0 then 0 else a) = a2 := by rw [← hmx]; split <;> omega
  have m2 : (if 0 < a then a else 0) = a2 := by rw [← hmx]; split <;> omega
  obtain ⟨G, W, hG, hW, K, hb0⟩ := (Mem.nil w).one (gc g) 23
  obtain ⟨g0, g1, g2⟩ := K.out.gr (B := G) (g := g) (by simp)
  clear h hb0 hok hB hU
  by_cases h21 : k = 21
  · subst h21
    have Hr := hid e21
    clear e21
    generalize Whn.ovr g 21 a b l = rr at *
    generalize Whn.dayC g l = dc at *
    have n0 : IntKind.i64.wrap (dc - a2) = dc - a2 := by rw [IntKind.wrap_i64]; omega
    have n1 : (if dc - a2 < 0 then 0 else dc - a2) = rr := by rw [Hr.out]; split <;> omega
    have n2 : (if 0 < dc - a2 then dc - a2 else 0) = rr := by rw [Hr.out]; split <;> omega
    have n4 : max (dc - a2) 0 = rr := Hr.out.symm
    clear ha ha2 hdc
    go_enter Try.func20, Try.ntmps20
    go_wp2_with fail
    refine (HDy.out _ ((H.out.below K.out.2 (Nat.le_refl _)).more K.out.2.size)).mono ?_
    rintro e Y1 ⟨rfl, bz⟩
    have K1 := hid (K.out.next bz)
    clear g0 g1 g2 Hr
    go_wp2_with fail
    go_ret
    exact Did.mk rfl K1.out.2
  clear ha ha2 hdc e21 HDy
  by_cases h22 : k = 22
  · subst h22
    clear h21
    generalize Whn.ovr g 22 a b l = rr at *
    go_enter Try.func20, Try.ntmps20
    go_wp2_with fail
    refine (HLo.out _ ((H.out.below K.out.2 (Nat.le_refl _)).more K.out.2.size)).mono ?_
    rintro e Y1 ⟨rfl, bz⟩
    have K1 := hid (K.out.next bz)
    clear g0 g1 g2
    go_wp2_with fail
    go_ret
    exact Did.mk rfl K1.out.2
  by_cases h23 : k = 23
  · subst h23
    clear h21
    generalize Whn.ovr g 23 a b l = rr at *
    go_enter Try.func20, Try.ntmps20
    go_wp2_with fail
    refine (HBr.out _ ((H.out.below K.out.2 (Nat.le_refl _)).more K.out.2.size)).mono ?_
    rintro e Y1 ⟨rfl, bz⟩
    have K1 := hid (K.out.next bz)
    clear g0 g1 g2
    go_wp2_with fail
    go_ret
    exact Did.mk rfl K1.out.2
  by_cases h24 : k = 24
  · subst h24
    clear h21
    generalize Whn.ovr g 24 a b l = rr at *
    go_enter Try.func20, Try.ntmps20
    go_wp2_with fail
    refine (HLb.out _ ((H.out.below K.out.2 (Nat.le_refl _)).more K.out.2.size)).mono ?_
    rintro e Y1 ⟨rfl, bz⟩
    have K1 := hid (K.out.next bz)
    clear g0 g1 g2
    go_wp2_with fail
    go_ret
    exact Did.mk rfl K1.out.2
  have Hr := hid (ovr_none h21 h22 h23 h24 g a b l)
  have q1 : (k == 21) = false := by rw [beq_eq_false_iff_ne]; exact h21
  have q2 : (k == 22) = false := by rw [beq_eq_false_iff_ne]; exact h22
  have q3 : (k == 23) = false := by rw [beq_eq_false_iff_ne]; exact h23
  have q4 : (k == 24) = false := by rw [beq_eq_false_iff_ne]; exact h24
  generalize Whn.ovr g k a b l = rr at *
  clear h21 h22 h23 h24
  go_enter Try.func20, Try.ntmps20
  go_wp2_with fail
  go_ret
  exact Did.mk (by rw [Hr.out]; rfl) K.out.2
set_option maxRecDepth 20000 in
set_option maxHeartbeats 4000000 in
theorem p_BrokenM (hB : BySt) (hU : BusySt) (g : Gr) (k a b : Int) (ha : I64 a) (whole : Bool) (l : List Wh) (A : Option Addr) (c : Nat) (hok : ∀ y ∈ l, Wok y) (hm : l.length ≤ 10000) (w : World) (h : Whs w w.heap.size A l) :
    Calls Try.prog 22 #[gv g, .int .i64 k, .int .i64 a, .int .i64 b, .slice A l.length c, .bool whole] w (Did (.bool (Whn.brkV g k a b l whole)) w) := by
  have HO := hid (fun X h => p_OverM hB hU g k a b ha l A c hok hm X h)
  have H := hid h
  obtain ⟨B, W, hB2, hW, K, hb0⟩ := (Mem.nil w).one (gc g) 23
  obtain ⟨g0, g1, g2⟩ := K.out.gr (B := B) (g := g) (by simp)
  clear h hb0 hok ha hB hU
  have Hr := hid (show Whn.brkV g k a b l whole = ((whole || !decide (k = 23)) && decide (0 < Whn.ovr g k a b l)) from rfl)
  generalize Whn.brkV g k a b l whole = rr at *
  generalize Whn.ovr g k a b l = ov at *
  by_cases h23 : k = 23
  · subst h23
    cases whole with
    | true =>
      have Hr2 := hid (Hr.out.trans (show _ = decide (0 < ov) from rfl))
      clear Hr
      go_enter Try.func22, Try.ntmps22
      go_wp2_with fail
      refine (HO.out _ ((H.out.below K.out.2 (Nat.le_refl _)).more K.out.2.size)).mono ?_
      rintro e Y1 ⟨rfl, bz⟩
      have K1 := hid (K.out.next bz)
      clear g0 g1 g2
      go_wp2_with fail
      go_ret
      exact Did.mk (by rw [Hr2.out]; rfl) K1.out.2
    | false =>
      have Hr2 := hid (Hr.out.trans (show _ = false from rfl))
      clear Hr
      go_enter Try.func22, Try.ntmps22
      go_wp2_with fail
      go_ret
      exact Did.mk (by rw [Hr2.out]; rfl) K.out.2
  · have q : (k == 23) = false := by rw [beq_eq_false_iff_ne]; exact h23
    have Hr2 := hid (Hr.out.trans (show _ = decide (0 < ov) from by rw [decide_eq_false h23, Bool.not_false, Bool.or_true, Bool.true_and]))
    clear Hr h23
    go_enter Try.func22, Try.ntmps22
    go_wp2_with fail
    refine (HO.out _ ((H.out.below K.out.2 (Nat.le_refl _)).more K.out.2.size)).mono ?_
    rintro e Y1 ⟨rfl, bz⟩
    have K1 := hid (K.out.next bz)
    clear g0 g1 g2
    go_wp2_with fail
    go_ret
    exact Did.mk (by rw [Hr2.out]; rfl) K1.out.2
set_option maxRecDepth 20000 in
set_option maxHeartbeats 4000000 in
theorem p_LeastM (hB : BySt) (hU : BusySt) (g : Gr) (k a b : Int) (ha : I64 a) (whole : Bool) (l : List Wh) (A : Option Addr) (c : Nat) (hok : ∀ y ∈ l, Wok y) (hm : l.length ≤ 10000) (w : World) (h : Whs w w.heap.size A l) :
    Calls Try.prog 24 #[gv g, .int .i64 k, .int .i64 a, .int .i64 b, .slice A l.length c, .bool whole] w (Did (.int .i64 (Whn.leastV g k a b l whole)) w) := by
  have HO := hid (fun X h => p_OverM hB hU g k a b ha l A c hok hm X h)
  have H := hid h
  obtain ⟨B, W, hB2, hW, K, hb0⟩ := (Mem.nil w).one (gc g) 23
  obtain ⟨g0, g1, g2⟩ := K.out.gr (B := B) (g := g) (by simp)
  clear h hb0 hok ha hB hU
  have Hr := hid (show Whn.leastV g k a b l whole = (if !whole && (decide (k = 23) || decide (k = 24)) then 0 else Whn.ovr g k a b l) from rfl)
  generalize Whn.leastV g k a b l whole = rr at *
  generalize Whn.ovr g k a b l = ov at *
  by_cases h23 : k = 23
  · subst h23
    cases whole with
    | true =>
      have Hr2 := hid (Hr.out.trans (show _ = ov from rfl))
      clear Hr
      go_enter Try.func24, Try.ntmps24
      go_wp2_with fail
      refine (HO.out _ ((H.out.below K.out.2 (Nat.le_refl _)).more K.out.2.size)).mono ?_
      rintro e Y1 ⟨rfl, bz⟩
      have K1 := hid (K.out.next bz)
      clear g0 g1 g2
      go_wp2_with fail
      go_ret
      exact Did.mk (by rw [Hr2.out]; rfl) K1.out.2
    | false =>
      have Hr2 := hid (Hr.out.trans (show _ = (0 : Int) from rfl))
      clear Hr
      go_enter Try.func24, Try.ntmps24
      go_wp2_with fail
      go_ret
      exact Did.mk (by rw [Hr2.out]; rfl) K.out.2
  by_cases h24 : k = 24
  · subst h24
    cases whole with
    | true =>
      have Hr2 := hid (Hr.out.trans (show _ = ov from rfl))
      clear Hr
      go_enter Try.func24, Try.ntmps24
      go_wp2_with fail
      refine (HO.out _ ((H.out.below K.out.2 (Nat.le_refl _)).more K.out.2.size)).mono ?_
      rintro e Y1 ⟨rfl, bz⟩
      have K1 := hid (K.out.next bz)
      clear g0 g1 g2
      go_wp2_with fail
      go_ret
      exact Did.mk (by rw [Hr2.out]; rfl) K1.out.2
    | false =>
      have Hr2 := hid (Hr.out.trans (show _ = (0 : Int) from rfl))
      clear Hr
      go_enter Try.func24, Try.ntmps24
      go_wp2_with fail
      go_ret
      exact Did.mk (by rw [Hr2.out]; rfl) K.out.2
  have q : (k == 23) = false := by rw [beq_eq_false_iff_ne]; exact h23
  have q2 : (k == 24) = false := by rw [beq_eq_false_iff_ne]; exact h24
  have Hr2 := hid (Hr.out.trans (show _ = ov from by rw [decide_eq_false h23, decide_eq_false h24, Bool.or_false, Bool.and_false]; rfl))
  clear Hr h23 h24
  go_enter Try.func24, Try.ntmps24
  go_wp2_with fail
  refine (HO.out _ ((H.out.below K.out.2 (Nat.le_refl _)).more K.out.2.size)).mono ?_
  rintro e Y1 ⟨rfl, bz⟩
  have K1 := hid (K.out.next bz)
  clear g0 g1 g2
  go_wp2_with fail
  go_ret
  exact Did.mk (by rw [Hr2.out]; rfl) K1.out.2
theorem busySt : BusySt := fun g l A c X hok hm h => (p_Busy g l A c hok hm X h).mono (fun e w' ⟨v, he, hown, hb⟩ => by
  obtain ⟨A2, c2, rfl, hr, _⟩ := own_rd hown
  exact ⟨A2, c2, he, hr, hb⟩)
theorem own16 : Own16 where
  known := fun k X _ => (p_KnownM k X).mono (fun e w' ⟨he, hw⟩ => ⟨he, by rw [← hw]; exact Below.refl _ _⟩)
  right := fun k a b X _ _ _ => (p_RightM k a b X).mono (fun e w' ⟨he, hw⟩ => ⟨he, by rw [← hw]; exact Below.refl _ _⟩)
  days := fun g l A c X hok hm h => p_DaysM bySt g l A c hok hm X h
  blocks := fun g l A c day gap X hok hm _ _ h => p_BlocksM bySt g l A c hok hm day gap X h
  over := fun g k a b l A c X _ ha _ hok hm h => p_OverM bySt busySt g k a b ha l A c hok hm X h
  broken := fun g k a b whole l A c X _ ha _ hok hm h => p_BrokenM bySt busySt g k a b ha whole l A c hok hm X h
  least := fun g k a b whole l A c X _ ha _ hok hm h => p_LeastM bySt busySt g k a b ha whole l A c hok hm X h
  busy := busySt
end Go.Proofs.Ytjjmajhldpoobaa
