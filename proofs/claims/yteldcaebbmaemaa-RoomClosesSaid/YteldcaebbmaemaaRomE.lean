/- Contracts of the document's own answer for layer 11 (room): Same, Right. -/
import Derived.Test.YteldcaebbmaemaaRomD
namespace Go.Proofs.Yteldcaebbmaemaa
open Go.RowKit
open Whn (Gr Wh)

abbrev rc (r : Rm) (A : Option Addr) (c : Nat) : List Value := [txt r.n, .int .i64 r.s, .int .u16 (r.g : Int), .slice A r.l.length c]
theorem Mem.rm {w X : World} {l : Obs} (h : Mem w X l) {B : Nat} {r : Rm} {A : Option Addr} {c : Nat} (hm : (B, rc r A c, 27) ∈ l) : X.cell? ⟨B, 0, none⟩ = some (txt r.n) ∧ X.cell? ⟨B, 1, none⟩ = some (.int .i64 r.s) ∧ X.cell? ⟨B, 2, none⟩ = some (.int .u16 (r.g : Int)) ∧ X.cell? ⟨B, 3, none⟩ = some (.slice A r.l.length c) :=
  ⟨h.cell hm rfl, h.cell hm rfl, h.cell hm rfl, h.cell hm rfl⟩
def rmRight (g : Gr) (r : Rm) : Bool := Whn.rgrid g && nameOk r.n && decide (0 ≤ r.s) && decide (r.s ≤ 10000) && (r.l.all (Whn.right g) && decide ((r.l.length : Int) ≤ 16))
set_option maxHeartbeats 4000000 in
theorem r_RightRoom (g : Gr) (r : Rm) (A : Option Addr) (c : Nat) (hok : Rok r) (hm : r.l.length ≤ maxLen) (w : World) (h : Whs w w.heap.size A r.l) :
    Calls Try.prog 11 #[gv g, rv r A c] w (Did (.bool (rmRight g r)) w) := by
  have HG := hid (fun w => r_RightGrid g w)
  have HN := hid (fun w => r_Name (bs r.n) w)
  rw [bs_data] at HN
  have HW := hid (fun w h => r_Whens g A r.l.length c r.l rfl hm hok.2.2.2 16 w h)
  have H := hid h
  have Hr := hid (show rmRight g r = (Whn.rgrid g && nameOk r.n && decide (0 ≤ r.s) && decide (r.s ≤ 10000) && (r.l.all (Whn.right g) && decide ((r.l.length : Int) ≤ 16))) from rfl)
  clear h hok hm
  obtain ⟨P, W, hP, hW, K, hb0⟩ := (Mem.nil w).one (gc g) 23
  obtain ⟨R, V, hR, hV, K1, hb1⟩ := K.out.one (rc r A c) 27
  clear K hb0 hb1
  obtain ⟨g0, g1, g2⟩ := K1.out.gr (B := P) (g := g) (by simp)
  generalize (r.l.all (Whn.right g) && decide ((r.l.length : Int) ≤ 16)) = ww at *
  generalize rmRight g r = q at *
  generalize nameOk r.n = nn at *
  generalize Whn.rgrid g = gg at *
  cases gg with
  | false =>
    go_enter Try.func11, Try.ntmps11
    go_wp2_with fail
    refine (HG.out _).mono ?_
    rintro e w1 ⟨rfl, b1⟩
    go_wp2_with fail
    go_ret
    exact Did.mk (by rw [Hr.out]; rfl) (K1.out.next b1).2
  | true =>
    go_enter Try.func11, Try.ntmps11
    go_wp2_with fail
    refine (HG.out _).mono ?_
    rintro e w1 ⟨rfl, b1⟩
    have K2 := K1.out.next b1
    clear g0 g1 g2
    obtain ⟨r0, r1, r2, r3⟩ := K2.rm (B := R) (r := r) (A := A) (c := c) (by simp)
    obtain ⟨g0, g1, g2⟩ := K2.gr (B := P) (g := g) (by simp)
    go_wp2_with fail
    refine (HN.out _).mono ?_
    rintro e w2 ⟨rfl, rfl⟩
    cases nn with
    | false =>
      go_wp2_with fail
      go_ret
      exact Did.mk (by rw [Hr.out]; rfl) K2.2
    | true =>
      by_cases h1 : 0 ≤ r.s
      · by_cases h2 : r.s ≤ 10000
        · go_wp2_with fail
          refine (HW.out _ (H.out.below K2.2 (Nat.le_refl _) |>.more K2.2.size)).mono ?_
          rintro e w3 ⟨rfl, b3⟩
          have K3 := K2.next b3
          go_wp2_with fail
          go_ret
          refine Did.mk ?_ K3.2
          rw [Hr.out, decide_eq_true h1, decide_eq_true h2]; rfl
        · go_wp2_with fail
          go_ret
          refine Did.mk ?_ K2.2
          rw [Hr.out, decide_eq_true h1, decide_eq_false (show ¬ r.s ≤ 10000 by omega)]; rfl
      · go_wp2_with fail
        go_ret
        refine Did.mk ?_ K2.2
        rw [Hr.out, decide_eq_false (show ¬ 0 ≤ r.s by omega)]; rfl
def rmEq (x y : Rm) : Bool := decide (x.n = y.n) && decide (x.s = y.s) && decide (x.g = y.g) && decide (x.l = y.l)
theorem rmEq_iff (x y : Rm) : rmEq x y = true ↔ x = y := by
  unfold rmEq
  cases x; cases y
  simp [and_assoc]
set_option maxHeartbeats 4000000 in
theorem r_Same (x y : Rm) (A A2 : Option Addr) (c c2 : Nat) (hm : x.l.length ≤ maxLen) (w : World) (h : Whs w w.heap.size A x.l) (h2 : Whs w w.heap.size A2 y.l) :
    Calls Try.prog 30 #[rv x A c, rv y A2 c2] w (Did (.bool (rmEq x y)) w) := by
  have HR := hid (fun w h h2 => r_Rows A A2 x.l.length y.l.length c c2 x.l y.l rfl rfl hm w h h2)
  have H := hid h
  have H2 := hid h2
  have Hr := hid (show rmEq x y = (decide (x.n = y.n) && decide (x.s = y.s) && decide (x.g = y.g) && decide (x.l = y.l)) from rfl)
  clear h h2 hm
  obtain ⟨P, W, hP, hW, K, hb0⟩ := (Mem.nil w).one (rc x A c) 27
  obtain ⟨R, V, hR, hV, K1, hb1⟩ := K.out.one (rc y A2 c2) 27
  clear K hb0 hb1
  obtain ⟨r0, r1, r2, r3⟩ := K1.out.rm (B := P) (r := x) (A := A) (c := c) (by simp)
  obtain ⟨s0, s1, s2, s3⟩ := K1.out.rm (B := R) (r := y) (A := A2) (c := c2) (by simp)
  generalize decide (x.l = y.l) = ww at *
  generalize rmEq x y = q at *
  by_cases e1 : x.n = y.n
  · have q1 : ((bs x.n).toList == (bs y.n).toList) = true := by rw [e1]; simp
    by_cases e2 : x.s = y.s
    · by_cases e3 : x.g = y.g
      · have q3 : ((x.g : Int) == (y.g : Int)) = true := by rw [e3]; exact beq_self_eq_true _
        have q2 : (x.s == y.s) = true := by rw [e2]; exact beq_self_eq_true _
        rw [decide_eq_true e1, decide_eq_true e2, decide_eq_true e3] at Hr
        clear e1 e2 e3
        go_enter Try.func30, Try.ntmps30
        go_wp2_with fail
        refine (HR.out _ (H.out.below K1.out.2 (Nat.le_refl _) |>.more K1.out.2.size) (H2.out.below K1.out.2 (Nat.le_refl _) |>.more K1.out.2.size)).mono ?_
        rintro e w1 ⟨rfl, b1⟩
        have K2 := K1.out.next b1
        go_wp2_with fail
        go_ret
        exact Did.mk (by rw [Hr.out]; rfl) K2.2
      · have q3 : ((x.g : Int) == (y.g : Int)) = false := by rw [beq_eq_false_iff_ne]; omega
        have q2 : (x.s == y.s) = true := by rw [e2]; exact beq_self_eq_true _
        rw [decide_eq_true e1, decide_eq_true e2, decide_eq_false e3] at Hr
        clear e1 e2 e3
        go_enter Try.func30, Try.ntmps30
        go_wp2_with fail
        go_ret
        exact Did.mk (by rw [Hr.out]; rfl) K1.out.2
    · have q2 : (x.s == y.s) = false := by rw [beq_eq_false_iff_ne]; exact e2
      rw [decide_eq_true e1, decide_eq_false e2] at Hr
      clear e1 e2
      go_enter Try.func30, Try.ntmps30
      go_wp2_with fail
      go_ret
      exact Did.mk (by rw [Hr.out]; rfl) K1.out.2
  · have q1 : ((bs x.n).toList == (bs y.n).toList) = false := by rw [list_of, list_of, bs_data, bs_data, beq_eq_false_iff_ne]; exact e1
    rw [decide_eq_false e1] at Hr
    clear e1
    go_enter Try.func30, Try.ntmps30
    go_wp2_with fail
    go_ret
    exact Did.mk (by rw [Hr.out]; rfl) K1.out.2
end Go.Proofs.Yteldcaebbmaemaa
