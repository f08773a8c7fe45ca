/- The document's own answers for layer 13 (class): Right. -/
import Derived.Test.YtcnpfchopjopeaaClsG
import Derived.Test.YtcnpfchopjopeaaClsI
import Derived.Test.YtcnpfchopjopeaaClsJ
import Derived.Test.YtcnpfchopjopeaaRomC
namespace Go.Proofs.Ytcnpfchopjopeaa
open Go.RowKit
open Whn (Gr Wh)

def clRight (g : Gr) (rn pn cn : Int) (x : Cl) : Bool := Whn.rgrid g && nameOk x.n && decide (0 ≤ x.s) && decide (x.s ≤ 10000) && decide ((x.p.length : Int) ≤ 4) && risingB x.p pn && timesB g x.t && placesB rn x.l && decide (-1 ≤ x.o) && decide (x.o < cn)
set_option maxRecDepth 20000 in
set_option maxHeartbeats 4000000 in
theorem r_RightC (g : Gr) (rn pn cn : Int) (x : Cl) (r : Cw) (hok : Cok x) (hl : Clc x r) (w : World) (h : Clw w w.heap.size x r) : Calls Try.prog 11 #[gv g, .int .i64 rn, .int .i64 pn, .int .i64 cn, cv x r] w (Did (.bool (clRight g rn pn cn x)) w) := by
  have H := hid h
  have HG := hid (fun X => r_RightGrid g X)
  have HN := hid (fun X => r_Name (bs x.n) X)
  rw [bs_data] at HN
  have HR := hid (fun X h => r_Rising r.a r.ac x.p (Nat.le_trans hl.1.1 hl.1.2) pn X h)
  have HT := hid (fun X h => r_times g r.b r.bc x.t (Nat.le_trans hl.2.1.1 hl.2.1.2) (fun y hy => (hok.2.2.2.2.1 y hy).1) X h)
  have HP := hid (fun X h => r_places rn r.c r.cc x.l (Nat.le_trans hl.2.2.1 hl.2.2.2) X h)
  have Hr := hid (show clRight g rn pn cn x = (Whn.rgrid g && nameOk x.n && decide (0 ≤ x.s) && decide (x.s ≤ 10000) && decide ((x.p.length : Int) ≤ 4) && risingB x.p pn && timesB g x.t && placesB rn x.l && decide (-1 ≤ x.o) && decide (x.o < cn)) from rfl)
  generalize clRight g rn pn cn x = q at *
  generalize Whn.rgrid g = gg at *
  generalize nameOk x.n = nn at *
  generalize risingB x.p pn = rb at *
  generalize timesB g x.t = tb at *
  generalize placesB rn x.l = pb at *
  clear h hok hl
  obtain ⟨G, W, hG, hW, K, z0⟩ := (Mem.nil w).one (gc g) 23
  obtain ⟨B, V, hB, hV, K1, z1⟩ := K.out.one (ccl x r) 30
  clear K z0 z1
  obtain ⟨e0, e1, e2, e3, e4, e5, e6⟩ := K1.out.cl (B := B) (x := x) (r := r) (t := 30) (by simp)
  obtain ⟨g0, g1, g2⟩ := K1.out.gr (B := G) (g := g) (by simp)
  go_enter Try.func11, Try.ntmps11
  go_wp2_with fail
  refine (HG.out _).mono ?_
  rintro e Y1 ⟨rfl, b1⟩
  have K11 := hid (K1.out.next b1)
  clear e0 e1 e2 e3 e4 e5 e6 g0 g1 g2 b1 K1
  obtain ⟨e0, e1, e2, e3, e4, e5, e6⟩ := K11.out.cl (B := B) (x := x) (r := r) (t := 30) (by simp)
  obtain ⟨g0, g1, g2⟩ := K11.out.gr (B := G) (g := g) (by simp)
  cases gg with
  | false =>
    go_wp2_with fail
    go_ret
    exact Did.mk (by rw [Hr.out]; rfl) K11.out.2
  | true =>
    go_wp2_with fail
    refine (HN.out _).mono ?_
    rintro e Y2 ⟨rfl, rfl⟩
    cases nn with
    | false =>
      go_wp2_with fail
      go_ret
      exact Did.mk (by rw [Hr.out]; rfl) K11.out.2
    | true =>
      by_cases c3 : 0 ≤ x.s
      · rw [decide_eq_true c3] at Hr
        by_cases c4 : x.s ≤ 10000
        · rw [decide_eq_true c4] at Hr
          by_cases c5 : (x.p.length : Int) ≤ 4
          · rw [decide_eq_true c5] at Hr
            go_wp2_with fail
            refine (HR.out _ ((H.out.1.below K11.out.2 (Nat.le_refl _)).more K11.out.2.size)).mono ?_
            rintro e Y3 ⟨rfl, b3⟩
            have K13 := hid (K11.out.next b3)
            clear e0 e1 e2 e3 e4 e5 e6 g0 g1 g2 b3 K11
            obtain ⟨e0, e1, e2, e3, e4, e5, e6⟩ := K13.out.cl (B := B) (x := x) (r := r) (t := 30) (by simp)
            obtain ⟨g0, g1, g2⟩ := K13.out.gr (B := G) (g := g) (by simp)
            cases rb with
            | false =>
              go_wp2_with fail
              go_ret
              exact Did.mk (by rw [Hr.out]; rfl) K13.out.2
            | true =>
              go_wp2_with fail
              refine (HT.out _ ((H.out.2.1.below K13.out.2 (Nat.le_refl _)).more K13.out.2.size)).mono ?_
              rintro e Y4 ⟨rfl, b4⟩
              have K14 := hid (K13.out.next b4)
              clear e0 e1 e2 e3 e4 e5 e6 g0 g1 g2 b4 K13
              obtain ⟨e0, e1, e2, e3, e4, e5, e6⟩ := K14.out.cl (B := B) (x := x) (r := r) (t := 30) (by simp)
              obtain ⟨g0, g1, g2⟩ := K14.out.gr (B := G) (g := g) (by simp)
              cases tb with
              | false =>
                go_wp2_with fail
                go_ret
                exact Did.mk (by rw [Hr.out]; rfl) K14.out.2
              | true =>
                go_wp2_with fail
                refine (HP.out _ ((H.out.2.2.below K14.out.2 (Nat.le_refl _)).more K14.out.2.size)).mono ?_
                rintro e Y5 ⟨rfl, b5⟩
                have K15 := hid (K14.out.next b5)
                clear e0 e1 e2 e3 e4 e5 e6 g0 g1 g2 b5 K14
                obtain ⟨e0, e1, e2, e3, e4, e5, e6⟩ := K15.out.cl (B := B) (x := x) (r := r) (t := 30) (by simp)
                obtain ⟨g0, g1, g2⟩ := K15.out.gr (B := G) (g := g) (by simp)
                cases pb with
                | false =>
                  go_wp2_with fail
                  go_ret
                  exact Did.mk (by rw [Hr.out]; rfl) K15.out.2
                | true =>
                  by_cases c9 : -1 ≤ x.o
                  · rw [decide_eq_true c9] at Hr
                    go_wp2_with fail
                    go_ret
                    exact Did.mk (by rw [Hr.out]; rfl) K15.out.2
                  · rw [decide_eq_false c9] at Hr
                    go_wp2_with fail
                    go_ret
                    exact Did.mk (by rw [Hr.out]; rfl) K15.out.2
          · rw [decide_eq_false c5] at Hr
            go_wp2_with fail
            go_ret
            exact Did.mk (by rw [Hr.out]; rfl) K11.out.2
        · rw [decide_eq_false c4] at Hr
          go_wp2_with fail
          go_ret
          exact Did.mk (by rw [Hr.out]; rfl) K11.out.2
      · rw [decide_eq_false c3] at Hr
        go_wp2_with fail
        go_ret
        exact Did.mk (by rw [Hr.out]; rfl) K11.out.2
end Go.Proofs.Ytcnpfchopjopeaa
