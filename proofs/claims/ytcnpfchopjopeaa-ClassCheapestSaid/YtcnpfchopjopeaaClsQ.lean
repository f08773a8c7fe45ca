/- Contracts of the program's own functions of layer 13 (class): within, Seat, Whole, Cost, rightCost; and room's Name. -/
import Derived.Test.YtcnpfchopjopeaaClsD
import Derived.Test.YtcnpfchopjopeaaRomC
namespace Go.Proofs.Ytcnpfchopjopeaa
open Go.RowKit
open Whn (Gr Wh)

def inB (n a b : Int) : Bool := decide (a ≤ n) && decide (n ≤ b)
theorem inB_true {n a b : Int} (h1 : a ≤ n) (h2 : n ≤ b) : inB n a b = true := by unfold inB; rw [decide_eq_true h1, decide_eq_true h2]; rfl
theorem inB_false {n a b : Int} (h : n < a ∨ b < n) : inB n a b = false := by
  unfold inB
  by_cases h1 : a ≤ n
  · rw [decide_eq_false (show ¬ n ≤ b by omega), Bool.and_false]
  · rw [decide_eq_false h1, Bool.false_and]
theorem p_wi (n a b : Int) (w : World) : Calls Try.prog 48 #[.int .i64 n, .int .i64 a, .int .i64 b] w (fun e w' => e = .returned (.bool (inB n a b)) ∧ w = w') := by
  by_cases h1 : a ≤ n
  · have h2 := hid (show decide (n ≤ b) = inB n a b by unfold inB; rw [decide_eq_true h1, Bool.true_and])
    go_enter Try.func48, Try.ntmps48
    go_wp2_with fail
    go_ret
    exact ⟨congrArg (fun z => Ending.returned (Value.bool z)) h2.out, rfl⟩
  · have h2 := hid (show false = inB n a b from (inB_false (by omega)).symm)
    go_enter Try.func48, Try.ntmps48
    go_wp2_with fail
    go_ret
    exact ⟨congrArg (fun z => Ending.returned (Value.bool z)) h2.out, rfl⟩
theorem p_win (n a b : Int) (w : World) : Calls Try.prog 29 #[.int .i64 n, .int .i64 a, .int .i64 b] w (fun e w' => e = .returned (.bool (inB n a b)) ∧ w = w') := by
  by_cases h1 : a ≤ n
  · have h2 := hid (show decide (n ≤ b) = inB n a b by unfold inB; rw [decide_eq_true h1, Bool.true_and])
    go_enter Try.func29, Try.ntmps29
    go_wp2_with fail
    go_ret
    exact ⟨congrArg (fun z => Ending.returned (Value.bool z)) h2.out, rfl⟩
  · have h2 := hid (show false = inB n a b from (inB_false (by omega)).symm)
    go_enter Try.func29, Try.ntmps29
    go_wp2_with fail
    go_ret
    exact ⟨congrArg (fun z => Ending.returned (Value.bool z)) h2.out, rfl⟩
theorem p_Name (s : ByteArray) (w : World) : Calls Try.prog 28 #[.string s] w (fun e w' => e = .returned (.bool (nameOk s.data.toList)) ∧ w = w') := by
  have HI := hid (fun n a b w => p_wi n a b w)
  have Hr := hid (show inB (s.size : Int) 1 24 = nameOk s.data.toList by
    unfold inB nameOk
    have e : s.data.toList.length = s.size := rfl
    rw [e]
    congr 1 <;> (rw [decide_eq_decide]; omega))
  go_enter Try.func28, Try.ntmps28
  go_wp2_with fail
  refine (HI.out _ _ _ _).mono ?_
  rintro e w1 ⟨rfl, rfl⟩
  go_wp2_with fail
  go_ret
  exact ⟨congrArg (fun z => Ending.returned (Value.bool z)) Hr.out, rfl⟩
theorem p_cost (n : Int) (w : World) : Calls Try.prog 50 #[.int .i64 n] w (fun e w' => e = .returned (.bool (costB n)) ∧ w = w') := by
  have HI := hid (fun n a b w => p_win n a b w)
  have Hr := hid (show inB n 0 1000 = costB n from rfl)
  go_enter Try.func50, Try.ntmps50
  go_wp2_with fail
  refine (HI.out _ _ _ _).mono ?_
  rintro e w1 ⟨rfl, rfl⟩
  go_wp2_with fail
  go_ret
  exact ⟨congrArg (fun z => Ending.returned (Value.bool z)) Hr.out, rfl⟩
set_option maxRecDepth 8000 in
set_option maxHeartbeats 2000000 in
theorem p_Seat (x : Cl) (r : Cw) (s : Se) (hN : x.t.length ≤ maxLen) (hM : x.l.length ≤ maxLen) (w : World) : Calls Try.prog 20 #[cv x r, sv s] w (Did (.bool (seatB x s)) w) := by
  unfold maxLen at hN hM
  obtain ⟨q1, h1⟩ : ∃ q, inB s.t (-1) ((x.t.length : Int) - 1) = q := ⟨_, rfl⟩
  obtain ⟨q2, h2⟩ : ∃ q, inB s.p (-1) ((x.l.length : Int) - 1) = q := ⟨_, rfl⟩
  have HT := hid (fun X => p_win s.t (-1) ((x.t.length : Int) - 1) X)
  have HP := hid (fun X => p_win s.p (-1) ((x.l.length : Int) - 1) X)
  have Hr := hid (show seatB x s = (q1 && q2) by
    rw [← h1, ← h2]
    unfold seatB inB
    rw [show decide (s.t < ((x.t.length : Nat) : Int)) = decide (s.t ≤ (x.t.length : Int) - 1) by rw [decide_eq_decide]; omega, show decide (s.p < ((x.l.length : Nat) : Int)) = decide (s.p ≤ (x.l.length : Int) - 1) by rw [decide_eq_decide]; omega, Bool.and_assoc])
  rw [h1] at HT
  rw [h2] at HP
  generalize seatB x s = q at *
  clear h1 h2
  obtain ⟨B, W, hB, hW, K, z0⟩ := (Mem.nil w).one (ccl x r) 30
  obtain ⟨D, V, hD, hV, K1, z1⟩ := K.out.one (sc s) 41
  clear K z0 z1
  obtain ⟨_, _, _, _, e4, e5, _⟩ := K1.out.cl (B := B) (x := x) (r := r) (t := 30) (by simp)
  obtain ⟨d0, d1⟩ := K1.out.se (B := D) (s := s) (t := 41) (by simp)
  cases q1 with
  | false =>
    go_enter Try.func20, Try.ntmps20
    go_wp2_with fail
    refine (HT.out _).mono ?_
    rintro e w1 ⟨rfl, rfl⟩
    go_wp2_with fail
    go_ret
    exact Did.mk (by rw [Hr.out]; rfl) K1.out.2
  | true =>
    go_enter Try.func20, Try.ntmps20
    go_wp2_with fail
    refine (HT.out _).mono ?_
    rintro e w1 ⟨rfl, rfl⟩
    go_wp2_with fail
    refine (HP.out _).mono ?_
    rintro e w1 ⟨rfl, rfl⟩
    go_wp2_with fail
    go_ret
    exact Did.mk (by rw [Hr.out]; rfl) K1.out.2
set_option maxRecDepth 8000 in
set_option maxHeartbeats 2000000 in
theorem p_Whole (x : Cl) (r : Cw) (s : Se) (hN : x.t.length ≤ maxLen) (hM : x.l.length ≤ maxLen) (w : World) : Calls Try.prog 22 #[cv x r, sv s] w (Did (.bool (wholeB x s)) w) := by
  have HS := hid (fun X => p_Seat x r s hN hM X)
  have Hr := hid (show wholeB x s = (seatB x s && (s.t != -1) && ((s.p != -1) || ((x.l.length : Int) == 0))) from rfl)
  generalize wholeB x s = q at *
  generalize seatB x s = se at *
  obtain ⟨B, W, hB, hW, K, z0⟩ := (Mem.nil w).one (ccl x r) 30
  obtain ⟨D, V, hD, hV, K1, z1⟩ := K.out.one (sc s) 41
  clear K z0 z1
  obtain ⟨e0, e1, e2, e3, e4, e5, e6⟩ := K1.out.cl (B := B) (x := x) (r := r) (t := 30) (by simp)
  obtain ⟨d0, d1⟩ := K1.out.se (B := D) (s := s) (t := 41) (by simp)
  go_enter Try.func22, Try.ntmps22
  go_wp2_with fail
  refine (HS.out _).mono ?_
  rintro e Y1 ⟨rfl, b1⟩
  have K2 := hid (K1.out.next b1)
  clear e0 e1 e2 e3 e4 e5 e6 d0 d1 b1 K1
  obtain ⟨_, _, _, _, e4, e5, _⟩ := K2.out.cl (B := B) (x := x) (r := r) (t := 30) (by simp)
  obtain ⟨d0, d1⟩ := K2.out.se (B := D) (s := s) (t := 41) (by simp)
  cases se with
  | false =>
    go_wp2_with fail
    go_ret
    exact Did.mk (by rw [Hr.out]; rfl) K2.out.2
  | true =>
    cases h1 : s.t != -1 with
    | false =>
      rw [h1] at Hr
      go_wp2_with fail
      go_ret
      exact Did.mk (by rw [Hr.out]; rfl) K2.out.2
    | true =>
      rw [h1] at Hr
      cases h2 : s.p != -1 with
      | true =>
        rw [h2] at Hr
        go_wp2_with fail
        go_ret
        exact Did.mk (by rw [Hr.out]; rfl) K2.out.2
      | false =>
        rw [h2] at Hr
        go_wp2_with fail
        go_ret
        exact Did.mk (by rw [Hr.out]; rfl) K2.out.2
set_option maxRecDepth 8000 in
set_option maxHeartbeats 2000000 in
theorem p_CostN (x : Cl) (r : Cw) (s : Se) (hN : x.t.length ≤ maxLen) (hM : x.l.length ≤ maxLen) (hs : seatB x s = false) (w : World) (h : Clw w w.heap.size x r) : Calls Try.prog 18 #[cv x r, sv s] w (Did (.tuple #[.int .i64 (costT x s), .int .i64 (costP x s)]) w) := by
  have HS := hid (fun X => p_Seat x r s hN hM X)
  rw [hs] at HS
  have Ht := hid (show costT x s = 0 by unfold costT; rw [hs]; rfl)
  have Hp := hid (show costP x s = 0 by unfold costP; rw [hs]; rfl)
  generalize costT x s = ct at *
  generalize costP x s = cp at *
  obtain ⟨st, sp⟩ := s
  obtain ⟨ra, rac, rb, rbc, rc, rcc⟩ := r
  have H := hid h
  obtain ⟨_, h1, h2⟩ := h
  simp only at h1 h2
  clear h1 h2 hs hN hM
  obtain ⟨B, W, hB, hW, K, z0⟩ := (Mem.nil w).one (ccl x ⟨ra, rac, rb, rbc, rc, rcc⟩) 30
  obtain ⟨D, V, hD, hV, K1, z1⟩ := K.out.one (sc ⟨st, sp⟩) 41
  clear K z0 z1
  obtain ⟨e0, e1, e2, e3, e4, e5, e6⟩ := K1.out.cl (B := B) (x := x) (r := ⟨ra, rac, rb, rbc, rc, rcc⟩) (t := 30) (by simp)
  obtain ⟨d0, d1⟩ := K1.out.se (B := D) (s := ⟨st, sp⟩) (t := 41) (by simp)
  simp only at e0 e1 e2 e3 e4 e5 e6 d0 d1
  go_enter Try.func18, Try.ntmps18
  go_wp2_with fail
  refine (HS.out _).mono ?_
  rintro e Y1 ⟨rfl, b1⟩
  have K2 := hid (K1.out.next b1)
  clear e0 e1 e2 e3 e4 e5 e6 d0 d1 b1 K1
  obtain ⟨e0, e1, e2, e3, e4, e5, e6⟩ := K2.out.cl (B := B) (x := x) (r := ⟨ra, rac, rb, rbc, rc, rcc⟩) (t := 30) (by simp)
  obtain ⟨d0, d1⟩ := K2.out.se (B := D) (s := ⟨st, sp⟩) (t := 41) (by simp)
  simp only at e0 e1 e2 e3 e4 e5 e6 d0 d1
  go_wp2_with fail
  go_ret2
  exact Did.mk (by rw [Ht.out, Hp.out]; rfl) K2.out.2
set_option maxRecDepth 8000 in
set_option maxHeartbeats 2000000 in
theorem p_Costtp (x : Cl) (r : Cw) (s : Se) (hN : x.t.length ≤ maxLen) (hM : x.l.length ≤ maxLen) (hs : seatB x s = true) (ht : ¬ 0 ≤ s.t) (hp : ¬ 0 ≤ s.p) (w : World) (h : Clw w w.heap.size x r) : Calls Try.prog 18 #[cv x r, sv s] w (Did (.tuple #[.int .i64 (costT x s), .int .i64 (costP x s)]) w) := by
  have HS := hid (fun X => p_Seat x r s hN hM X)
  rw [hs] at HS
  obtain ⟨k1, k2, k3, k4⟩ := (seatB_iff x s).1 hs
  have Ht := hid (show costT x s = 0 by unfold costT; rw [hs, decide_eq_false ht]; rfl)
  have Hp := hid (show costP x s = 0 by unfold costP; rw [hs, decide_eq_false hp]; rfl)
  generalize costT x s = ct at *
  generalize costP x s = cp at *
  obtain ⟨st, sp⟩ := s
  obtain ⟨ra, rac, rb, rbc, rc, rcc⟩ := r
  simp only at ht hp k1 k2 k3 k4 Ht Hp
  have H := hid h
  obtain ⟨_, h1, h2⟩ := h
  simp only at h1 h2
  obtain rfl : st = -1 := by omega
  obtain rfl : sp = -1 := by omega
  clear h1 h2 hs hN hM
  obtain ⟨B, W, hB, hW, K, z0⟩ := (Mem.nil w).one (ccl x ⟨ra, rac, rb, rbc, rc, rcc⟩) 30
  obtain ⟨D, V, hD, hV, K1, z1⟩ := K.out.one (sc ⟨-1, -1⟩) 41
  clear K z0 z1
  obtain ⟨e0, e1, e2, e3, e4, e5, e6⟩ := K1.out.cl (B := B) (x := x) (r := ⟨ra, rac, rb, rbc, rc, rcc⟩) (t := 30) (by simp)
  obtain ⟨d0, d1⟩ := K1.out.se (B := D) (s := ⟨-1, -1⟩) (t := 41) (by simp)
  simp only at e0 e1 e2 e3 e4 e5 e6 d0 d1
  go_enter Try.func18, Try.ntmps18
  go_wp2_with fail
  refine (HS.out _).mono ?_
  rintro e Y1 ⟨rfl, b1⟩
  have K2 := hid (K1.out.next b1)
  clear e0 e1 e2 e3 e4 e5 e6 d0 d1 b1 K1
  obtain ⟨e0, e1, e2, e3, e4, e5, e6⟩ := K2.out.cl (B := B) (x := x) (r := ⟨ra, rac, rb, rbc, rc, rcc⟩) (t := 30) (by simp)
  obtain ⟨d0, d1⟩ := K2.out.se (B := D) (s := ⟨-1, -1⟩) (t := 41) (by simp)
  simp only at e0 e1 e2 e3 e4 e5 e6 d0 d1
  go_wp2_with fail
  go_ret2
  exact Did.mk (by rw [Ht.out, Hp.out]; rfl) K2.out.2
set_option maxRecDepth 8000 in
set_option maxHeartbeats 2000000 in
theorem p_CosttP (x : Cl) (r : Cw) (s : Se) (hN : x.t.length ≤ maxLen) (hM : x.l.length ≤ maxLen) (hs : seatB x s = true) (ht : ¬ 0 ≤ s.t) (hp : 0 ≤ s.p) (w : World) (h : Clw w w.heap.size x r) : Calls Try.prog 18 #[cv x r, sv s] w (Did (.tuple #[.int .i64 (costT x s), .int .i64 (costP x s)]) w) := by
  have HS := hid (fun X => p_Seat x r s hN hM X)
  rw [hs] at HS
  obtain ⟨k1, k2, k3, k4⟩ := (seatB_iff x s).1 hs
  have Ht := hid (show costT x s = 0 by unfold costT; rw [hs, decide_eq_false ht]; rfl)
  have Hp := hid (show costP x s = (x.l.getD s.p.toNat ⟨0, 0⟩).c by unfold costP; rw [hs, decide_eq_true hp]; rfl)
  generalize costT x s = ct at *
  generalize costP x s = cp at *
  obtain ⟨st, sp⟩ := s
  obtain ⟨ra, rac, rb, rbc, rc, rcc⟩ := r
  simp only at ht hp k1 k2 k3 k4 Ht Hp
  have H := hid h
  obtain ⟨_, h1, h2⟩ := h
  simp only at h1 h2
  obtain rfl : st = -1 := by omega
  obtain ⟨ae, m, z, rfl, rfl, hz, _, hml, q0, q1⟩ := pl_cell h2 hp k4
  rw [hz.out] at Hp
  have bp := (World.block_lt_of_cell? _ _ q0)
  have n2 : (((m : Nat) : Int) != -1) = true := by rw [bne_iff_ne]; omega
  clear h1 h2 hs hN hM
  obtain ⟨B, W, hB, hW, K, z0⟩ := (Mem.nil w).one (ccl x ⟨ra, rac, rb, rbc, some ae, rcc⟩) 30
  obtain ⟨D, V, hD, hV, K1, z1⟩ := K.out.one (sc ⟨-1, ((m : Nat) : Int)⟩) 41
  clear K z0 z1
  obtain ⟨e0, e1, e2, e3, e4, e5, e6⟩ := K1.out.cl (B := B) (x := x) (r := ⟨ra, rac, rb, rbc, some ae, rcc⟩) (t := 30) (by simp)
  obtain ⟨d0, d1⟩ := K1.out.se (B := D) (s := ⟨-1, ((m : Nat) : Int)⟩) (t := 41) (by simp)
  simp only at e0 e1 e2 e3 e4 e5 e6 d0 d1
  have g1 := (K1.out.2.cell (p := ⟨(ae.add (m * 2)).block, (ae.add (m * 2)).off + 1, none⟩) bp).trans q1
  go_enter Try.func18, Try.ntmps18
  go_wp2_with fail
  refine (HS.out _).mono ?_
  rintro e Y1 ⟨rfl, b1⟩
  have K2 := hid (K1.out.next b1)
  clear e0 e1 e2 e3 e4 e5 e6 d0 d1 g1 b1 K1
  obtain ⟨e0, e1, e2, e3, e4, e5, e6⟩ := K2.out.cl (B := B) (x := x) (r := ⟨ra, rac, rb, rbc, some ae, rcc⟩) (t := 30) (by simp)
  obtain ⟨d0, d1⟩ := K2.out.se (B := D) (s := ⟨-1, ((m : Nat) : Int)⟩) (t := 41) (by simp)
  simp only at e0 e1 e2 e3 e4 e5 e6 d0 d1
  have g1 := (K2.out.2.cell (p := ⟨(ae.add (m * 2)).block, (ae.add (m * 2)).off + 1, none⟩) bp).trans q1
  go_wp2_with fail
  go_ret2
  exact Did.mk (by rw [Ht.out, Hp.out]; rfl) K2.out.2
set_option maxRecDepth 8000 in
set_option maxHeartbeats 2000000 in
theorem p_CostTp (x : Cl) (r : Cw) (s : Se) (hN : x.t.length ≤ maxLen) (hM : x.l.length ≤ maxLen) (hs : seatB x s = true) (ht : 0 ≤ s.t) (hp : ¬ 0 ≤ s.p) (w : World) (h : Clw w w.heap.size x r) : Calls Try.prog 18 #[cv x r, sv s] w (Did (.tuple #[.int .i64 (costT x s), .int .i64 (costP x s)]) w) := by
  have HS := hid (fun X => p_Seat x r s hN hM X)
  rw [hs] at HS
  obtain ⟨k1, k2, k3, k4⟩ := (seatB_iff x s).1 hs
  have Ht := hid (show costT x s = (x.t.getD s.t.toNat ⟨⟨0, 0, 0, 0⟩, 0⟩).c by unfold costT; rw [hs, decide_eq_true ht]; rfl)
  have Hp := hid (show costP x s = 0 by unfold costP; rw [hs, decide_eq_false hp]; rfl)
  generalize costT x s = ct at *
  generalize costP x s = cp at *
  obtain ⟨st, sp⟩ := s
  obtain ⟨ra, rac, rb, rbc, rc, rcc⟩ := r
  simp only at ht hp k1 k2 k3 k4 Ht Hp
  have H := hid h
  obtain ⟨_, h1, h2⟩ := h
  simp only at h1 h2
  obtain ⟨ad, k, y, rfl, rfl, hy, _, hkl, a0, a1, a2, a3, a4⟩ := tm_cell h1 ht k2
  rw [hy.out] at Ht
  have bt := (World.block_lt_of_cell? _ _ a0)
  have n1 : (((k : Nat) : Int) != -1) = true := by rw [bne_iff_ne]; omega
  obtain rfl : sp = -1 := by omega
  clear h1 h2 hs hN hM
  obtain ⟨B, W, hB, hW, K, z0⟩ := (Mem.nil w).one (ccl x ⟨ra, rac, some ad, rbc, rc, rcc⟩) 30
  obtain ⟨D, V, hD, hV, K1, z1⟩ := K.out.one (sc ⟨((k : Nat) : Int), -1⟩) 41
  clear K z0 z1
  obtain ⟨e0, e1, e2, e3, e4, e5, e6⟩ := K1.out.cl (B := B) (x := x) (r := ⟨ra, rac, some ad, rbc, rc, rcc⟩) (t := 30) (by simp)
  obtain ⟨d0, d1⟩ := K1.out.se (B := D) (s := ⟨((k : Nat) : Int), -1⟩) (t := 41) (by simp)
  simp only at e0 e1 e2 e3 e4 e5 e6 d0 d1
  have f4 := (K1.out.2.cell (p := ⟨(ad.add (k * 5)).block, (ad.add (k * 5)).off + 4, none⟩) bt).trans a4
  go_enter Try.func18, Try.ntmps18
  go_wp2_with fail
  refine (HS.out _).mono ?_
  rintro e Y1 ⟨rfl, b1⟩
  have K2 := hid (K1.out.next b1)
  clear e0 e1 e2 e3 e4 e5 e6 d0 d1 f4 b1 K1
  obtain ⟨e0, e1, e2, e3, e4, e5, e6⟩ := K2.out.cl (B := B) (x := x) (r := ⟨ra, rac, some ad, rbc, rc, rcc⟩) (t := 30) (by simp)
  obtain ⟨d0, d1⟩ := K2.out.se (B := D) (s := ⟨((k : Nat) : Int), -1⟩) (t := 41) (by simp)
  simp only at e0 e1 e2 e3 e4 e5 e6 d0 d1
  have f4 := (K2.out.2.cell (p := ⟨(ad.add (k * 5)).block, (ad.add (k * 5)).off + 4, none⟩) bt).trans a4
  go_wp2_with fail
  go_ret2
  exact Did.mk (by rw [Ht.out, Hp.out]; rfl) K2.out.2
set_option maxRecDepth 8000 in
set_option maxHeartbeats 2000000 in
theorem p_CostTP (x : Cl) (r : Cw) (s : Se) (hN : x.t.length ≤ maxLen) (hM : x.l.length ≤ maxLen) (hs : seatB x s = true) (ht : 0 ≤ s.t) (hp : 0 ≤ s.p) (w : World) (h : Clw w w.heap.size x r) : Calls Try.prog 18 #[cv x r, sv s] w (Did (.tuple #[.int .i64 (costT x s), .int .i64 (costP x s)]) w) := by
  have HS := hid (fun X => p_Seat x r s hN hM X)
  rw [hs] at HS
  obtain ⟨k1, k2, k3, k4⟩ := (seatB_iff x s).1 hs
  have Ht := hid (show costT x s = (x.t.getD s.t.toNat ⟨⟨0, 0, 0, 0⟩, 0⟩).c by unfold costT; rw [hs, decide_eq_true ht]; rfl)
  have Hp := hid (show costP x s = (x.l.getD s.p.toNat ⟨0, 0⟩).c by unfold costP; rw [hs, decide_eq_true hp]; rfl)
  generalize costT x s = ct at *
  generalize costP x s = cp at *
  obtain ⟨st, sp⟩ := s
  obtain ⟨ra, rac, rb, rbc, rc, rcc⟩ := r
  simp only at ht hp k1 k2 k3 k4 Ht Hp
  have H := hid h
  obtain ⟨_, h1, h2⟩ := h
  simp only at h1 h2
  obtain ⟨ad, k, y, rfl, rfl, hy, _, hkl, a0, a1, a2, a3, a4⟩ := tm_cell h1 ht k2
  rw [hy.out] at Ht
  have bt := (World.block_lt_of_cell? _ _ a0)
  have n1 : (((k : Nat) : Int) != -1) = true := by rw [bne_iff_ne]; omega
  obtain ⟨ae, m, z, rfl, rfl, hz, _, hml, q0, q1⟩ := pl_cell h2 hp k4
  rw [hz.out] at Hp
  have bp := (World.block_lt_of_cell? _ _ q0)
  have n2 : (((m : Nat) : Int) != -1) = true := by rw [bne_iff_ne]; omega
  clear h1 h2 hs hN hM
  obtain ⟨B, W, hB, hW, K, z0⟩ := (Mem.nil w).one (ccl x ⟨ra, rac, some ad, rbc, some ae, rcc⟩) 30
  obtain ⟨D, V, hD, hV, K1, z1⟩ := K.out.one (sc ⟨((k : Nat) : Int), ((m : Nat) : Int)⟩) 41
  clear K z0 z1
  obtain ⟨e0, e1, e2, e3, e4, e5, e6⟩ := K1.out.cl (B := B) (x := x) (r := ⟨ra, rac, some ad, rbc, some ae, rcc⟩) (t := 30) (by simp)
  obtain ⟨d0, d1⟩ := K1.out.se (B := D) (s := ⟨((k : Nat) : Int), ((m : Nat) : Int)⟩) (t := 41) (by simp)
  simp only at e0 e1 e2 e3 e4 e5 e6 d0 d1
  have f4 := (K1.out.2.cell (p := ⟨(ad.add (k * 5)).block, (ad.add (k * 5)).off + 4, none⟩) bt).trans a4
  have g1 := (K1.out.2.cell (p := ⟨(ae.add (m * 2)).block, (ae.add (m * 2)).off + 1, none⟩) bp).trans q1
  go_enter Try.func18, Try.ntmps18
  go_wp2_with fail
  refine (HS.out _).mono ?_
  rintro e Y1 ⟨rfl, b1⟩
  have K2 := hid (K1.out.next b1)
  clear e0 e1 e2 e3 e4 e5 e6 d0 d1 f4 g1 b1 K1
  obtain ⟨e0, e1, e2, e3, e4, e5, e6⟩ := K2.out.cl (B := B) (x := x) (r := ⟨ra, rac, some ad, rbc, some ae, rcc⟩) (t := 30) (by simp)
  obtain ⟨d0, d1⟩ := K2.out.se (B := D) (s := ⟨((k : Nat) : Int), ((m : Nat) : Int)⟩) (t := 41) (by simp)
  simp only at e0 e1 e2 e3 e4 e5 e6 d0 d1
  have f4 := (K2.out.2.cell (p := ⟨(ad.add (k * 5)).block, (ad.add (k * 5)).off + 4, none⟩) bt).trans a4
  have g1 := (K2.out.2.cell (p := ⟨(ae.add (m * 2)).block, (ae.add (m * 2)).off + 1, none⟩) bp).trans q1
  go_wp2_with fail
  go_ret2
  exact Did.mk (by rw [Ht.out, Hp.out]; rfl) K2.out.2
theorem p_Cost (x : Cl) (r : Cw) (s : Se) (hN : x.t.length ≤ maxLen) (hM : x.l.length ≤ maxLen) (w : World) (h : Clw w w.heap.size x r) : Calls Try.prog 18 #[cv x r, sv s] w (Did (.tuple #[.int .i64 (costT x s), .int .i64 (costP x s)]) w) := by
  cases hs : seatB x s with
  | false => exact p_CostN x r s hN hM hs w h
  | true =>
    by_cases ht : 0 ≤ s.t
    · by_cases hp : 0 ≤ s.p
      · exact p_CostTP x r s hN hM hs ht hp w h
      · exact p_CostTp x r s hN hM hs ht hp w h
    · by_cases hp : 0 ≤ s.p
      · exact p_CosttP x r s hN hM hs ht hp w h
      · exact p_Costtp x r s hN hM hs ht hp w h
end Go.Proofs.Ytcnpfchopjopeaa
