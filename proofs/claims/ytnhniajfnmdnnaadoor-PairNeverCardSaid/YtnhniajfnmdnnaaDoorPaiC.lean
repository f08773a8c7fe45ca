/- The document's own answers for layer 15 (pair): Needs, Holds, Never. -/
import Derived.Test.YtnhniajfnmdnnaaDoorPaiB
namespace Go.Proofs.YtnhniajfnmdnnaaDoor
open Go.RowKit
open Whn (Gr Wh)

theorem Mem.sp {w X : World} {l : Obs} (h : Mem w X l) {B : Nat} {x : Sp} (hm : (B, spc x, 29) ∈ l) : X.cell? ⟨B, 0, none⟩ = some (.int .u32 (x.w.w : Int)) ∧ X.cell? ⟨B, 1, none⟩ = some (.int .u8 (x.w.d : Int)) ∧ X.cell? ⟨B, 2, none⟩ = some (.int .i64 x.w.s) ∧ X.cell? ⟨B, 3, none⟩ = some (.int .i64 x.w.l) ∧ X.cell? ⟨B, 4, none⟩ = some (.int .i64 x.r) :=
  ⟨h.cell hm rfl, h.cell hm rfl, h.cell hm rfl, h.cell hm rfl, h.cell hm rfl⟩
theorem eq_no {a b : Int} (h : ¬ a = b) : (a == b) = false := by rw [beq_eq_false_iff_ne]; exact h
theorem eq_yes {a b : Int} (h : a = b) : (a == b) = true := by rw [beq_iff_eq]; exact h
theorem ne_no {a b : Int} (h : ¬ a = b) : (a != b) = true := by rw [bne_iff_ne]; exact h
def ndT (k : Int) : Bool := knB k && !(roB k)
def ndR (k : Int) : Bool := knB k && (roB k || decide (k = 14))
theorem r_Needs (k : Int) (w : World) : Calls Tryd.prog 18 #[.int .i64 k] w (Did (.tuple #[.bool (ndT k), .bool (ndR k)]) w) := by
  have HK := hid (fun X => r_Known k X)
  have HR := hid (fun X => r_rooms k X)
  have h1 := hid (show ndT k = (knB k && !(roB k)) from rfl)
  have h2 := hid (show ndR k = (knB k && (roB k || (k == 14))) by
    unfold ndR
    congr 2)
  generalize ndT k = a1 at *
  generalize ndR k = a2 at *
  generalize knB k = b1 at *
  generalize roB k = b2 at *
  go_enter Tryd.func18, Tryd.ntmps18
  go_wp2_with fail
  refine (HK.out _).mono ?_
  rintro e w1 ⟨rfl, rfl⟩
  cases b1 with
  | false =>
    go_wp2_with fail
    refine (HK.out _).mono ?_
    rintro e w1 ⟨rfl, rfl⟩
    go_wp2_with fail
    go_ret2
    exact Did.mk (by rw [h1.out, h2.out]; rfl) (Below.refl _ _)
  | true =>
    go_wp2_with fail
    refine (HR.out _).mono ?_
    rintro e w1 ⟨rfl, rfl⟩
    go_wp2_with fail
    refine (HK.out _).mono ?_
    rintro e w1 ⟨rfl, rfl⟩
    go_wp2_with fail
    refine (HR.out _).mono ?_
    rintro e w1 ⟨rfl, rfl⟩
    cases b2 with
    | true =>
      go_wp2_with fail
      go_ret2
      exact Did.mk (by rw [h1.out, h2.out]; rfl) (Below.refl _ _)
    | false =>
      go_wp2_with fail
      go_ret2
      exact Did.mk (by rw [h1.out, h2.out]; rfl) (Below.refl _ _)
set_option maxRecDepth 20000 in
set_option maxHeartbeats 4000000 in
theorem r_Holds (g : Gr) (k n : Int) (x y : Sp) (walk : Int) (hx : Wok x.w) (hy : Wok y.w) (w : World) : Calls Tryd.prog 10 #[gv g, .int .i64 k, .int .i64 n, spv x, spv y, .int .i64 walk] w (Did (.bool (prH g k n x y walk)) w) := by
  have HK := hid (fun X => r_Known k X)
  have HR1 := hid (fun X => r_Right g x.w hx X)
  have HR2 := hid (fun X => r_Right g y.w hy X)
  have HT := hid (fun h1 h2 h3 h4 h5 X => r_times g k n x.w y.w walk h1 h2 h3 hx hy h4 h5 X)
  obtain ⟨P, W, hP, hW, K, hb0⟩ := (Mem.nil w).one (gc g) 23
  obtain ⟨Q, V, hQ, hV, K1, hb1⟩ := K.out.one (spc x) 29
  obtain ⟨R, U, hR, hU, K2, hb2⟩ := K1.out.one (spc y) 29
  clear K K1 hb0 hb1 hb2
  obtain ⟨g0, g1, g2⟩ := K2.out.gr (B := P) (g := g) (by simp)
  obtain ⟨c0, c1, c2, c3, c4⟩ := K2.out.sp (B := Q) (x := x) (by simp)
  obtain ⟨d0, d1, d2, d3, d4⟩ := K2.out.sp (B := R) (x := y) (by simp)
  by_cases hk : knB k = true
  · skip
    rw [hk] at HK
    by_cases h10 : k = 10
    · subst h10
      have Hr := hid (show prH g 10 n x y walk = (decide (0 ≤ x.r) && (x.r == y.r)) by
        show sroB x y = _
        unfold sroB
        congr 1)
      generalize prH g 10 n x y walk = q at *
      clear HR1 HR2 HT hk
      by_cases h1 : 0 ≤ x.r
      · have Hr2 := hid (Hr.out.trans (by rw [decide_eq_true h1]))
        clear Hr
        go_enter Tryd.func10, Tryd.ntmps10
        go_wp2_with fail
        refine (HK.out _).mono ?_
        rintro e w1 ⟨rfl, rfl⟩
        go_wp2_with fail
        go_ret
        exact Did.mk (by rw [Hr2.out]; rfl) K2.out.2
      · have Hr2 := hid (Hr.out.trans (by rw [decide_eq_false h1]))
        clear Hr
        go_enter Tryd.func10, Tryd.ntmps10
        go_wp2_with fail
        refine (HK.out _).mono ?_
        rintro e w1 ⟨rfl, rfl⟩
        go_wp2_with fail
        go_ret
        exact Did.mk (by rw [Hr2.out]; rfl) K2.out.2
    by_cases h11 : k = 11
    · subst h11
      have Hr := hid (show prH g 11 n x y walk = (decide (x.r < 0) || (x.r != y.r)) by
        show (!(sroB x y)) = _
        unfold sroB
        rw [Bool.eq_iff_iff, Bool.not_eq_true', Bool.and_eq_false_iff, Bool.or_eq_true, decide_eq_false_iff_not, decide_eq_false_iff_not, decide_eq_true_iff, bne_iff_ne]
        omega)
      generalize prH g 11 n x y walk = q at *
      clear HR1 HR2 HT hk
      by_cases h1 : x.r < 0
      · have Hr2 := hid (Hr.out.trans (by rw [decide_eq_true h1]))
        clear Hr
        go_enter Tryd.func10, Tryd.ntmps10
        go_wp2_with fail
        refine (HK.out _).mono ?_
        rintro e w1 ⟨rfl, rfl⟩
        go_wp2_with fail
        go_ret
        exact Did.mk (by rw [Hr2.out]; rfl) K2.out.2
      · have Hr2 := hid (Hr.out.trans (rfl))
        clear Hr
        go_enter Tryd.func10, Tryd.ntmps10
        go_wp2_with fail
        refine (HK.out _).mono ?_
        rintro e w1 ⟨rfl, rfl⟩
        go_wp2_with fail
        go_ret
        exact Did.mk (by rw [Hr2.out]; rfl) K2.out.2
    have Hr := hid (show prH g k n x y walk = (Whn.right g x.w && (Whn.right g y.w && tmB g k n x.w y.w walk)) by unfold prH; rw [hk, if_neg h10, if_neg h11, Bool.true_and])
    have HT1 := hid (fun h4 h5 X => HT.out hk h10 h11 h4 h5 X)
    have q1 := eq_no h10
    have q2 := eq_no h11
    generalize prH g k n x y walk = q at *
    clear HT hk
    go_enter Tryd.func10, Tryd.ntmps10
    go_wp2_with fail
    refine (HK.out _).mono ?_
    rintro e w1 ⟨rfl, rfl⟩
    go_wp2_with fail
    refine (HR1.out _).mono ?_
    rintro e Y1 ⟨rfl, bz⟩
    have K3 := hid (K2.out.next bz)
    clear g0 g1 g2 c0 c1 c2 c3 c4 d0 d1 d2 d3 d4 hP hW hQ hV hR hU bz K2 HR1
    obtain ⟨g0, g1, g2⟩ := K3.out.gr (B := P) (g := g) (by simp)
    obtain ⟨c0, c1, c2, c3, c4⟩ := K3.out.sp (B := Q) (x := x) (by simp)
    obtain ⟨d0, d1, d2, d3, d4⟩ := K3.out.sp (B := R) (x := y) (by simp)
    cases hr1 : Whn.right g x.w with
    | false =>
      rw [hr1] at Hr
      go_wp2_with fail
      go_ret
      exact Did.mk (by rw [Hr.out]; rfl) K3.out.2
    | true =>
      rw [hr1, Bool.true_and] at Hr
      go_wp2_with fail
      refine (HR2.out _).mono ?_
      rintro e Y2 ⟨rfl, bz⟩
      have K4 := hid (K3.out.next bz)
      clear g0 g1 g2 c0 c1 c2 c3 c4 d0 d1 d2 d3 d4 bz K3 HR2
      obtain ⟨g0, g1, g2⟩ := K4.out.gr (B := P) (g := g) (by simp)
      obtain ⟨c0, c1, c2, c3, c4⟩ := K4.out.sp (B := Q) (x := x) (by simp)
      obtain ⟨d0, d1, d2, d3, d4⟩ := K4.out.sp (B := R) (x := y) (by simp)
      cases hr2 : Whn.right g y.w with
      | false =>
        rw [hr2] at Hr
        go_wp2_with fail
        go_ret
        exact Did.mk (by rw [Hr.out]; rfl) K4.out.2
      | true =>
        rw [hr2, Bool.true_and] at Hr
        have HT2 := hid (fun X => HT1.out hr1 hr2 X)
        clear HT1
        go_wp2_with fail
        refine (HT2.out _).mono ?_
        rintro e Y3 ⟨rfl, bz⟩
        have K5 := hid (K4.out.next bz)
        clear g0 g1 g2 c0 c1 c2 c3 c4 d0 d1 d2 d3 d4 bz K4
        go_wp2_with fail
        go_ret
        exact Did.mk (by rw [Hr.out]; rfl) K5.out.2
  · have hk1 : knB k = false := by simpa using hk
    have Hr := hid (show prH g k n x y walk = false by unfold prH; rw [hk1, Bool.false_and])
    rw [hk1] at HK
    clear hk hk1 HT
    go_enter Tryd.func10, Tryd.ntmps10
    go_wp2_with fail
    refine (HK.out _).mono ?_
    rintro e w1 ⟨rfl, rfl⟩
    go_wp2_with fail
    go_ret
    exact Did.mk (by rw [Hr.out]; rfl) K2.out.2
end Go.Proofs.YtnhniajfnmdnnaaDoor
