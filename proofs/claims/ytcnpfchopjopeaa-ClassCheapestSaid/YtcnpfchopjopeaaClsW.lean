/- Contract of the program's own Right (layer 13, class). -/
import Derived.Test.YtcnpfchopjopeaaClsV
namespace Go.Proofs.Ytcnpfchopjopeaa
open Go.RowKit
open Whn (Gr Wh)

theorem clRight_eq (g : Gr) (rn pn cn : Int) (x : Cl) : clRight g rn pn cn x = (nameOk x.n && inB x.s 0 10000 && (decide ((x.p.length : Int) ≤ 4) && risingB x.p pn) && timesB g x.t && placesB rn x.l && decide (-1 ≤ x.o) && decide (x.o < cn)) := by
  unfold clRight inB
  cases ht : timesB g x.t with
  | false => simp only [Bool.and_false, Bool.false_and]
  | true =>
    rw [timesB_grid ht]
    simp only [Bool.true_and, Bool.and_assoc]
set_option maxRecDepth 20000 in
set_option maxHeartbeats 4000000 in
theorem p_RightC (g : Gr) (rn pn cn : Int) (hpn : I64 pn) (x : Cl) (r : Cw) (hok : Cok x) (hl : Clc x r) (w : World) (h : Clw w w.heap.size x r) :
    Calls Try.prog 10 #[gv g, .int .i64 rn, .int .i64 pn, .int .i64 cn, cv x r] w (Did (.bool (clRight g rn pn cn x)) w) := by
  have HN := hid (fun X => p_Name (bs x.n) X)
  rw [bs_data] at HN
  have HI := hid (fun X => p_win x.s 0 10000 X)
  have HP := hid (fun X (h : Clw X X.heap.size x r) => p_persons pn hpn r.a r.ac x.p (Nat.le_trans hl.1.1 hl.1.2) X h.1)
  have HT := hid (fun X (h : Clw X X.heap.size x r) => p_times g r.b r.bc x.t (Nat.le_trans hl.2.1.1 hl.2.1.2) (fun y hy => (hok.2.2.2.2.1 y hy).1) X h.2.1)
  have HL := hid (fun X (h : Clw X X.heap.size x r) => p_places rn r.c r.cc x.l (Nat.le_trans hl.2.2.1 hl.2.2.2) X h.2.2)
  have H := hid h
  have Hr := hid (clRight_eq g rn pn cn x)
  clear h hok hl hpn
  generalize nameOk x.n = nn at *
  generalize inB x.s 0 10000 = ss at *
  generalize (decide ((x.p.length : Int) ≤ 4) && risingB x.p pn) = pp at *
  generalize timesB g x.t = tt at *
  generalize placesB rn x.l = ll at *
  generalize clRight g rn pn cn x = q at *
  obtain ⟨P, W, hP, hW, K, hb0⟩ := (Mem.nil w).one (gc g) 23
  obtain ⟨R, V, hR, hV, K1, hb1⟩ := K.out.one (ccl x r) 30
  clear K hb0 hb1
  obtain ⟨g0, g1, g2⟩ := K1.out.gr (B := P) (g := g) (by simp)
  obtain ⟨e0, e1, e2, e3, e4, e5, e6⟩ := K1.out.cl (B := R) (x := x) (r := r) (t := 30) (by simp)
  go_enter Try.func10, Try.ntmps10
  go_wp2_with fail
  refine (HN.out _).mono ?_
  rintro e Y1 ⟨rfl, rfl⟩
  cases nn with
  | false =>
    go_wp2_with fail
    go_ret
    exact Did.mk (by rw [Hr.out]; rfl) K1.out.2
  | true =>
    go_wp2_with fail
    refine (HI.out _).mono ?_
    rintro e Y2 ⟨rfl, rfl⟩
    cases ss with
    | false =>
      go_wp2_with fail
      go_ret
      exact Did.mk (by rw [Hr.out]; rfl) K1.out.2
    | true =>
      go_wp2_with fail
      refine (HP.out _ (H.out.next K1.out.2)).mono ?_
      rintro e Y3 ⟨rfl, b1⟩
      have K4 := hid (K1.out.next b1)
      clear g0 g1 g2 e0 e1 e2 e3 e4 e5 e6 b1 K1
      obtain ⟨g0, g1, g2⟩ := K4.out.gr (B := P) (g := g) (by simp)
      obtain ⟨e0, e1, e2, e3, e4, e5, e6⟩ := K4.out.cl (B := R) (x := x) (r := r) (t := 30) (by simp)
      cases pp with
      | false =>
        go_wp2_with fail
        go_ret
        exact Did.mk (by rw [Hr.out]; rfl) K4.out.2
      | true =>
        go_wp2_with fail
        refine (HT.out _ (H.out.next K4.out.2)).mono ?_
        rintro e Y4 ⟨rfl, b1⟩
        have K5 := hid (K4.out.next b1)
        clear g0 g1 g2 e0 e1 e2 e3 e4 e5 e6 b1 K4
        obtain ⟨g0, g1, g2⟩ := K5.out.gr (B := P) (g := g) (by simp)
        obtain ⟨e0, e1, e2, e3, e4, e5, e6⟩ := K5.out.cl (B := R) (x := x) (r := r) (t := 30) (by simp)
        cases tt with
        | false =>
          go_wp2_with fail
          go_ret
          exact Did.mk (by rw [Hr.out]; rfl) K5.out.2
        | true =>
          go_wp2_with fail
          refine (HL.out _ (H.out.next K5.out.2)).mono ?_
          rintro e Y5 ⟨rfl, b1⟩
          have K6 := hid (K5.out.next b1)
          clear g0 g1 g2 e0 e1 e2 e3 e4 e5 e6 b1 K5
          obtain ⟨g0, g1, g2⟩ := K6.out.gr (B := P) (g := g) (by simp)
          obtain ⟨e0, e1, e2, e3, e4, e5, e6⟩ := K6.out.cl (B := R) (x := x) (r := r) (t := 30) (by simp)
          cases ll with
          | false =>
            go_wp2_with fail
            go_ret
            exact Did.mk (by rw [Hr.out]; rfl) K6.out.2
          | true =>
            by_cases c1 : -1 ≤ x.o
            · have q1 : decide (-1 ≤ x.o) = true := decide_eq_true c1
              rw [q1] at Hr
              by_cases c2 : x.o < cn
              · have q2 : decide (x.o < cn) = true := decide_eq_true c2
                rw [q2] at Hr
                go_wp2_with fail
                go_ret
                exact Did.mk (by rw [Hr.out]; rfl) K6.out.2
              · have q2 : decide (x.o < cn) = false := decide_eq_false c2
                rw [q2] at Hr
                go_wp2_with fail
                go_ret
                exact Did.mk (by rw [Hr.out]; rfl) K6.out.2
            · have q1 : decide (-1 ≤ x.o) = false := decide_eq_false c1
              rw [q1] at Hr
              go_wp2_with fail
              go_ret
              exact Did.mk (by rw [Hr.out]; rfl) K6.out.2
end Go.Proofs.Ytcnpfchopjopeaa
