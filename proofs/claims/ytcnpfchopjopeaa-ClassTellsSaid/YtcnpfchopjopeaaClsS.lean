/- Contract of the program's own Same (layer 13, class). -/
import Derived.Test.YtcnpfchopjopeaaClsN
namespace Go.Proofs.Ytcnpfchopjopeaa
open Go.RowKit
open Whn (Gr Wh)

theorem clEq_and (x y : Cl) : clEq x y = (decide (x.n = y.n) && decide (x.s = y.s) && decide (x.g = y.g) && decide (x.o = y.o) && decide (x.p = y.p) && decide (x.t = y.t) && decide (x.l = y.l)) := by
  rw [Bool.eq_iff_iff, clEq_iff]
  simp only [Bool.and_eq_true, decide_eq_true_iff]
  constructor
  · rintro rfl; simp
  · rintro ⟨⟨⟨⟨⟨⟨h1, h2⟩, h3⟩, h4⟩, h5⟩, h6⟩, h7⟩
    cases x; cases y
    simp only at h1 h2 h3 h4 h5 h6 h7
    subst h1; subst h2; subst h3; subst h4; subst h5; subst h6; subst h7
    rfl
set_option maxRecDepth 20000 in
set_option maxHeartbeats 4000000 in
theorem p_SameC (x y : Cl) (r s : Cw) (hl : Clc x r) (w : World) (h : Clw w w.heap.size x r) (h2 : Clw w w.heap.size y s) :
    Calls Try.prog 26 #[cv x r, cv y s] w (Did (.bool (clEq x y)) w) := by
  have HI := hid (fun X (h : Clw X X.heap.size x r) (h2 : Clw X X.heap.size y s) => p_EqualI r.a s.a r.ac s.ac x.p y.p (Nat.le_trans hl.1.1 hl.1.2) X h.1 h2.1)
  have HT := hid (fun X (h : Clw X X.heap.size x r) (h2 : Clw X X.heap.size y s) => p_EqualT r.b s.b r.bc s.bc x.t y.t (Nat.le_trans hl.2.1.1 hl.2.1.2) X h.2.1 h2.2.1)
  have HL := hid (fun X (h : Clw X X.heap.size x r) (h2 : Clw X X.heap.size y s) => p_EqualP r.c s.c r.cc s.cc x.l y.l (Nat.le_trans hl.2.2.1 hl.2.2.2) X h.2.2 h2.2.2)
  have H := hid h
  have H2 := hid h2
  have Hr := hid (clEq_and x y)
  clear h h2 hl
  obtain ⟨P, W, hP, hW, K, hb0⟩ := (Mem.nil w).one (ccl x r) 30
  obtain ⟨R, V, hR, hV, K1, hb1⟩ := K.out.one (ccl y s) 30
  clear K hb0 hb1
  obtain ⟨e0, e1, e2, e3, e4, e5, e6⟩ := K1.out.cl (B := P) (x := x) (r := r) (t := 30) (by simp)
  obtain ⟨f0, f1, f2, f3, f4, f5, f6⟩ := K1.out.cl (B := R) (x := y) (r := s) (t := 30) (by simp)
  generalize decide (x.p = y.p) = ip at *
  generalize decide (x.t = y.t) = it at *
  generalize decide (x.l = y.l) = il at *
  generalize clEq x y = q at *
  by_cases c1 : x.n = y.n
  · have q1 : ((bs x.n).toList == (bs y.n).toList) = true := by rw [list_of, list_of, bs_data, bs_data, beq_iff_eq]; exact c1
    rw [decide_eq_true c1] at Hr
    try simp only [Bool.true_and] at Hr
    clear c1
    by_cases c2 : x.s = y.s
    · have q2 : (x.s == y.s) = true := by rw [beq_iff_eq]; exact c2
      rw [decide_eq_true c2, Bool.true_and] at Hr
      clear c2
      by_cases c3 : x.g = y.g
      · have q3 : ((x.g : Int) == (y.g : Int)) = true := by rw [beq_iff_eq]; omega
        rw [decide_eq_true c3, Bool.true_and] at Hr
        clear c3
        by_cases c4 : x.o = y.o
        · have q4 : (x.o == y.o) = true := by rw [beq_iff_eq]; exact c4
          rw [decide_eq_true c4, Bool.true_and] at Hr
          clear c4
          go_enter Try.func26, Try.ntmps26
          go_wp2_with fail
          refine (HI.out _ (H.out.next K1.out.2) (H2.out.next K1.out.2)).mono ?_
          rintro e Y1 ⟨rfl, b1⟩
          have K2 := hid (K1.out.next b1)
          clear e0 e1 e2 e3 e4 e5 e6 f0 f1 f2 f3 f4 f5 f6 b1 K1
          obtain ⟨e0, e1, e2, e3, e4, e5, e6⟩ := K2.out.cl (B := P) (x := x) (r := r) (t := 30) (by simp)
          obtain ⟨f0, f1, f2, f3, f4, f5, f6⟩ := K2.out.cl (B := R) (x := y) (r := s) (t := 30) (by simp)
          cases ip with
          | false =>
            go_wp2_with fail
            go_ret
            exact Did.mk (by rw [Hr.out]; rfl) K2.out.2
          | true =>
            go_wp2_with fail
            refine (HT.out _ (H.out.next K2.out.2) (H2.out.next K2.out.2)).mono ?_
            rintro e Y2 ⟨rfl, b1⟩
            have K3 := hid (K2.out.next b1)
            clear e0 e1 e2 e3 e4 e5 e6 f0 f1 f2 f3 f4 f5 f6 b1 K2
            obtain ⟨e0, e1, e2, e3, e4, e5, e6⟩ := K3.out.cl (B := P) (x := x) (r := r) (t := 30) (by simp)
            obtain ⟨f0, f1, f2, f3, f4, f5, f6⟩ := K3.out.cl (B := R) (x := y) (r := s) (t := 30) (by simp)
            cases it with
            | false =>
              go_wp2_with fail
              go_ret
              exact Did.mk (by rw [Hr.out]; rfl) K3.out.2
            | true =>
              go_wp2_with fail
              refine (HL.out _ (H.out.next K3.out.2) (H2.out.next K3.out.2)).mono ?_
              rintro e Y3 ⟨rfl, b1⟩
              have K4 := hid (K3.out.next b1)
              clear e0 e1 e2 e3 e4 e5 e6 f0 f1 f2 f3 f4 f5 f6 b1 K3
              obtain ⟨e0, e1, e2, e3, e4, e5, e6⟩ := K4.out.cl (B := P) (x := x) (r := r) (t := 30) (by simp)
              obtain ⟨f0, f1, f2, f3, f4, f5, f6⟩ := K4.out.cl (B := R) (x := y) (r := s) (t := 30) (by simp)
              go_wp2_with fail
              go_ret
              exact Did.mk (by rw [Hr.out]; rfl) K4.out.2
        · have q4 : (x.o == y.o) = false := by rw [beq_eq_false_iff_ne]; exact c4
          rw [decide_eq_false c4, Bool.false_and] at Hr
          try simp only [Bool.false_and] at Hr
          clear c4
          go_enter Try.func26, Try.ntmps26
          go_wp2_with fail
          go_ret
          exact Did.mk (by rw [Hr.out]; rfl) K1.out.2
      · have q3 : ((x.g : Int) == (y.g : Int)) = false := by rw [beq_eq_false_iff_ne]; omega
        rw [decide_eq_false c3, Bool.false_and] at Hr
        try simp only [Bool.false_and] at Hr
        clear c3
        go_enter Try.func26, Try.ntmps26
        go_wp2_with fail
        go_ret
        exact Did.mk (by rw [Hr.out]; rfl) K1.out.2
    · have q2 : (x.s == y.s) = false := by rw [beq_eq_false_iff_ne]; exact c2
      rw [decide_eq_false c2, Bool.false_and] at Hr
      try simp only [Bool.false_and] at Hr
      clear c2
      go_enter Try.func26, Try.ntmps26
      go_wp2_with fail
      go_ret
      exact Did.mk (by rw [Hr.out]; rfl) K1.out.2
  · have q1 : ((bs x.n).toList == (bs y.n).toList) = false := by rw [list_of, list_of, bs_data, bs_data, beq_eq_false_iff_ne]; exact c1
    rw [decide_eq_false c1] at Hr
    try simp only [Bool.false_and] at Hr
    clear c1
    go_enter Try.func26, Try.ntmps26
    go_wp2_with fail
    go_ret
    exact Did.mk (by rw [Hr.out]; rfl) K1.out.2
end Go.Proofs.Ytcnpfchopjopeaa
