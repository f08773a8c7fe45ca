/- The document's own answers for layer 17 (problem): sameRule, Same. -/
import Derived.Test.YtgmgccepmalahaaGreatPrbF
import Derived.Test.YtgmgccepmalahaaGreatPqC
import Derived.Test.YtgmgccepmalahaaGreatPqE
namespace Go.Proofs.YtgmgccepmalahaaGreat
open Go.RowKit
open Whn (Gr Wh)

def rlEq (x y : Rl) : Bool := decide (x.k = y.k) && (decide (x.l = y.l) && (decide (x.a = y.a) && (decide (x.b = y.b) && (decide (x.h = y.h) && decide (x.c = y.c)))))
theorem rlEq_iff (x y : Rl) : rlEq x y = true ↔ x = y := by
  unfold rlEq
  simp only [Bool.and_eq_true, decide_eq_true_iff]
  cases x; cases y
  simp
set_option maxRecDepth 20000 in
set_option maxHeartbeats 8000000 in
theorem r17_sameRule (x y : Rl) (A B : Option Addr) (c d : Nat) (hx : x.l.length ≤ maxLen) (w : World) (h1 : Its w w.heap.size A x.l) (h2 : Its w w.heap.size B y.l) :
    Calls Tryz.prog 102 #[rlv x A c, rlv y B d] w (Did (.bool (rlEq x y)) w) := by
  have HI := hid (fun X (hb : Below w.heap.size w X) => r_Ints A B x.l.length y.l.length c d x.l y.l rfl rfl X w.heap.size w.heap.size (h1.below hb (Nat.le_refl _)) (h2.below hb (Nat.le_refl _)) hx)
  have Hr := hid (show rlEq x y = (decide (x.k = y.k) && (decide (x.l = y.l) && (decide (x.a = y.a) && (decide (x.b = y.b) && (decide (x.h = y.h) && decide (x.c = y.c)))))) from rfl)
  generalize rlEq x y = rr at *
  generalize decide (x.l = y.l) = li at *
  obtain ⟨R, W, hR, hW, K, hb0⟩ := (Mem.nil w).one (rlc x A c) 45
  obtain ⟨Q, V, hQ, hV, K2, hb2⟩ := K.out.one (rlc y B d) 45
  obtain ⟨c0, c1, c2, c3, c4, c5⟩ := K2.out.rl (B := R) (x := x) (A := A) (c := c) (t := 45) (by simp)
  obtain ⟨d0, d1, d2, d3, d4, d5⟩ := K2.out.rl (B := Q) (x := y) (A := B) (c := d) (t := 45) (by simp)
  have hRQ : R < Q := by
    have := (K.out.at_ (b := R) (cs := rlc x A c) (t := 45) (by simp)).lt
    omega
  clear K hb0 hb2 h1 h2
  by_cases hk : x.k = y.k
  · have q0 : (x.k == y.k) = true := by rw [beq_iff_eq]; exact hk
    rw [decide_eq_true hk, Bool.true_and] at Hr
    clear hk
    cases li with
    | false =>
      have Hd := hid (Hr.out.trans (show _ = false from rfl))
      clear Hr
      go_enter Tryz.func102, Tryz.ntmps102
      go_wp2_with fail
      refine (HI.out _ K2.out.2).mono ?_
      rintro e Y ⟨rfl, bz⟩
      have K3 := hid (K2.out.next bz)
      clear c0 c1 c2 c3 c4 c5 d0 d1 d2 d3 d4 d5
      go_wp2_with fail
      go_ret
      exact Did.mk (by rw [Hd.out]; rfl) K3.out.2
    | true =>
      rw [Bool.true_and] at Hr
      by_cases ha : x.a = y.a
      · skip
        have qa : (x.a == y.a) = true := by rw [beq_iff_eq]; exact ha
        rw [decide_eq_true ha, Bool.true_and] at Hr
        clear ha
        by_cases hb : x.b = y.b
        · skip
          have qb : (x.b == y.b) = true := by rw [beq_iff_eq]; exact hb
          rw [decide_eq_true hb, Bool.true_and] at Hr
          clear hb
          by_cases hh : x.h = y.h
          · skip
            have qh : (x.h == y.h) = true := by rw [beq_iff_eq]; exact hh
            rw [decide_eq_true hh, Bool.true_and] at Hr
            clear hh
            by_cases hc : x.c = y.c
            · skip
              have qc : (x.c == y.c) = true := by rw [beq_iff_eq]; exact hc
              rw [decide_eq_true hc] at Hr
              clear hc
              go_enter Tryz.func102, Tryz.ntmps102
              go_wp2_with fail
              refine (HI.out _ K2.out.2).mono ?_
              rintro e Y ⟨rfl, bz⟩
              have K3 := hid (K2.out.next bz)
              clear c0 c1 c2 c3 c4 c5 d0 d1 d2 d3 d4 d5
              obtain ⟨c0, c1, c2, c3, c4, c5⟩ := K3.out.rl (B := R) (x := x) (A := A) (c := c) (t := 45) (by simp)
              obtain ⟨d0, d1, d2, d3, d4, d5⟩ := K3.out.rl (B := Q) (x := y) (A := B) (c := d) (t := 45) (by simp)
              go_wp2_with fail
              go_ret
              exact Did.mk (by rw [Hr.out]; rfl) K3.out.2
            · have qc : (x.c == y.c) = false := by rw [beq_eq_false_iff_ne]; exact hc
              rw [decide_eq_false hc] at Hr
              clear hc
              go_enter Tryz.func102, Tryz.ntmps102
              go_wp2_with fail
              refine (HI.out _ K2.out.2).mono ?_
              rintro e Y ⟨rfl, bz⟩
              have K3 := hid (K2.out.next bz)
              clear c0 c1 c2 c3 c4 c5 d0 d1 d2 d3 d4 d5
              obtain ⟨c0, c1, c2, c3, c4, c5⟩ := K3.out.rl (B := R) (x := x) (A := A) (c := c) (t := 45) (by simp)
              obtain ⟨d0, d1, d2, d3, d4, d5⟩ := K3.out.rl (B := Q) (x := y) (A := B) (c := d) (t := 45) (by simp)
              go_wp2_with fail
              go_ret
              exact Did.mk (by rw [Hr.out]; rfl) K3.out.2
          · have qh : (x.h == y.h) = false := by rw [beq_eq_false_iff_ne]; exact hh
            rw [decide_eq_false hh, Bool.false_and] at Hr
            clear hh
            go_enter Tryz.func102, Tryz.ntmps102
            go_wp2_with fail
            refine (HI.out _ K2.out.2).mono ?_
            rintro e Y ⟨rfl, bz⟩
            have K3 := hid (K2.out.next bz)
            clear c0 c1 c2 c3 c4 c5 d0 d1 d2 d3 d4 d5
            obtain ⟨c0, c1, c2, c3, c4, c5⟩ := K3.out.rl (B := R) (x := x) (A := A) (c := c) (t := 45) (by simp)
            obtain ⟨d0, d1, d2, d3, d4, d5⟩ := K3.out.rl (B := Q) (x := y) (A := B) (c := d) (t := 45) (by simp)
            go_wp2_with fail
            go_ret
            exact Did.mk (by rw [Hr.out]; rfl) K3.out.2
        · have qb : (x.b == y.b) = false := by rw [beq_eq_false_iff_ne]; exact hb
          rw [decide_eq_false hb, Bool.false_and] at Hr
          clear hb
          go_enter Tryz.func102, Tryz.ntmps102
          go_wp2_with fail
          refine (HI.out _ K2.out.2).mono ?_
          rintro e Y ⟨rfl, bz⟩
          have K3 := hid (K2.out.next bz)
          clear c0 c1 c2 c3 c4 c5 d0 d1 d2 d3 d4 d5
          obtain ⟨c0, c1, c2, c3, c4, c5⟩ := K3.out.rl (B := R) (x := x) (A := A) (c := c) (t := 45) (by simp)
          obtain ⟨d0, d1, d2, d3, d4, d5⟩ := K3.out.rl (B := Q) (x := y) (A := B) (c := d) (t := 45) (by simp)
          go_wp2_with fail
          go_ret
          exact Did.mk (by rw [Hr.out]; rfl) K3.out.2
      · have qa : (x.a == y.a) = false := by rw [beq_eq_false_iff_ne]; exact ha
        rw [decide_eq_false ha, Bool.false_and] at Hr
        clear ha
        go_enter Tryz.func102, Tryz.ntmps102
        go_wp2_with fail
        refine (HI.out _ K2.out.2).mono ?_
        rintro e Y ⟨rfl, bz⟩
        have K3 := hid (K2.out.next bz)
        clear c0 c1 c2 c3 c4 c5 d0 d1 d2 d3 d4 d5
        obtain ⟨c0, c1, c2, c3, c4, c5⟩ := K3.out.rl (B := R) (x := x) (A := A) (c := c) (t := 45) (by simp)
        obtain ⟨d0, d1, d2, d3, d4, d5⟩ := K3.out.rl (B := Q) (x := y) (A := B) (c := d) (t := 45) (by simp)
        go_wp2_with fail
        go_ret
        exact Did.mk (by rw [Hr.out]; rfl) K3.out.2
  · have q0 : (x.k == y.k) = false := by rw [beq_eq_false_iff_ne]; exact hk
    rw [decide_eq_false hk, Bool.false_and] at Hr
    clear hk
    go_enter Tryz.func102, Tryz.ntmps102
    go_wp2_with fail
    go_ret
    exact Did.mk (by rw [Hr.out]; rfl) K2.out.2
end Go.Proofs.YtgmgccepmalahaaGreat
