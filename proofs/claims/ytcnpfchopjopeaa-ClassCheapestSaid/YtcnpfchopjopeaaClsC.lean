/- The document's own answers for layer 13 (class): Cost. -/
import Derived.Test.YtcnpfchopjopeaaClsB
namespace Go.Proofs.Ytcnpfchopjopeaa
open Go.RowKit
open Whn (Gr Wh)

theorem Clw.below {w w' : World} {x : Cl} {r : Cw} (h : Clw w w.heap.size x r) (hb : Below w.heap.size w w') : Clw w' w.heap.size x r :=
  ⟨h.1.below hb (Nat.le_refl _), h.2.1.below hb (Nat.le_refl _), h.2.2.below hb (Nat.le_refl _)⟩
set_option maxRecDepth 8000 in
set_option maxHeartbeats 2000000 in
theorem r_CostN (x : Cl) (r : Cw) (s : Se) (hs : seatB x s = false) (w : World) (h : Clw w w.heap.size x r) : Calls Try.prog 19 #[cv x r, sv s] w (Did (.tuple #[.int .i64 (costT x s), .int .i64 (costP x s)]) w) := by
  have HS := hid (fun X => r_Seat x r s X)
  rw [hs] at HS
  have Ht := hid (show costT x s = 0 by unfold costT; rw [hs]; rfl)
  have Hp := hid (show costP x s = 0 by unfold costP; rw [hs]; rfl)
  generalize costT x s = ct at *
  generalize costP x s = cp at *
  obtain ⟨st, sp⟩ := s
  obtain ⟨ra, rac, rb, rbc, rc, rcc⟩ := r
  have H := hid h
  obtain ⟨_, h1, h2⟩ := h
  simp only at h1 h2
  clear h1 h2 hs
  obtain ⟨B, W, hB, hW, K, z0⟩ := (Mem.nil w).one (ccl x ⟨ra, rac, rb, rbc, rc, rcc⟩) 30
  obtain ⟨D, V, hD, hV, K1, z1⟩ := K.out.one (sc ⟨st, sp⟩) 41
  clear K z0 z1
  obtain ⟨e0, e1, e2, e3, e4, e5, e6⟩ := K1.out.cl (B := B) (x := x) (r := ⟨ra, rac, rb, rbc, rc, rcc⟩) (t := 30) (by simp)
  obtain ⟨d0, d1⟩ := K1.out.se (B := D) (s := ⟨st, sp⟩) (t := 41) (by simp)
  simp only at e0 e1 e2 e3 e4 e5 e6 d0 d1
  go_enter Try.func19, Try.ntmps19
  go_wp2_with fail
  refine (HS.out _).mono ?_
  rintro e Y1 ⟨rfl, b1⟩
  have K2 := hid (K1.out.next b1)
  clear e0 e1 e2 e3 e4 e5 e6 d0 d1 b1 K1
  obtain ⟨e0, e1, e2, e3, e4, e5, e6⟩ := K2.out.cl (B := B) (x := x) (r := ⟨ra, rac, rb, rbc, rc, rcc⟩) (t := 30) (by simp)
  obtain ⟨d0, d1⟩ := K2.out.se (B := D) (s := ⟨st, sp⟩) (t := 41) (by simp)
  simp only at e0 e1 e2 e3 e4 e5 e6 d0 d1
  go_wp2_with fail
  refine (HS.out _).mono ?_
  rintro e Y2 ⟨rfl, b1⟩
  have K3 := hid (K2.out.next b1)
  clear e0 e1 e2 e3 e4 e5 e6 d0 d1 b1 K2
  obtain ⟨e0, e1, e2, e3, e4, e5, e6⟩ := K3.out.cl (B := B) (x := x) (r := ⟨ra, rac, rb, rbc, rc, rcc⟩) (t := 30) (by simp)
  obtain ⟨d0, d1⟩ := K3.out.se (B := D) (s := ⟨st, sp⟩) (t := 41) (by simp)
  simp only at e0 e1 e2 e3 e4 e5 e6 d0 d1
  go_wp2_with fail
  go_ret2
  exact Did.mk (by rw [Ht.out, Hp.out]; rfl) K3.out.2
set_option maxRecDepth 8000 in
set_option maxHeartbeats 2000000 in
theorem r_Costtp (x : Cl) (r : Cw) (s : Se) (hs : seatB x s = true) (ht : ¬ 0 ≤ s.t) (hp : ¬ 0 ≤ s.p) (w : World) (h : Clw w w.heap.size x r) : Calls Try.prog 19 #[cv x r, sv s] w (Did (.tuple #[.int .i64 (costT x s), .int .i64 (costP x s)]) w) := by
  have HS := hid (fun X => r_Seat x r s X)
  rw [hs] at HS
  obtain ⟨k1, k2, k3, k4⟩ := (seatB_iff x s).1 hs
  have Ht := hid (show costT x s = 0 by unfold costT; rw [hs, decide_eq_false ht]; rfl)
  have Hp := hid (show costP x s = 0 by unfold costP; rw [hs, decide_eq_false hp]; rfl)
  generalize costT x s = ct at *
  generalize costP x s = cp at *
  obtain ⟨st, sp⟩ := s
  obtain ⟨ra, rac, rb, rbc, rc, rcc⟩ := r
  simp only at ht hp k1 k2 k3 k4 Ht Hp
  have H := hid h
  obtain ⟨_, h1, h2⟩ := h
  simp only at h1 h2
  clear h1 h2 hs
  obtain ⟨B, W, hB, hW, K, z0⟩ := (Mem.nil w).one (ccl x ⟨ra, rac, rb, rbc, rc, rcc⟩) 30
  obtain ⟨D, V, hD, hV, K1, z1⟩ := K.out.one (sc ⟨st, sp⟩) 41
  clear K z0 z1
  obtain ⟨e0, e1, e2, e3, e4, e5, e6⟩ := K1.out.cl (B := B) (x := x) (r := ⟨ra, rac, rb, rbc, rc, rcc⟩) (t := 30) (by simp)
  obtain ⟨d0, d1⟩ := K1.out.se (B := D) (s := ⟨st, sp⟩) (t := 41) (by simp)
  simp only at e0 e1 e2 e3 e4 e5 e6 d0 d1
  go_enter Try.func19, Try.ntmps19
  go_wp2_with fail
  refine (HS.out _).mono ?_
  rintro e Y1 ⟨rfl, b1⟩
  have K2 := hid (K1.out.next b1)
  clear e0 e1 e2 e3 e4 e5 e6 d0 d1 b1 K1
  obtain ⟨e0, e1, e2, e3, e4, e5, e6⟩ := K2.out.cl (B := B) (x := x) (r := ⟨ra, rac, rb, rbc, rc, rcc⟩) (t := 30) (by simp)
  obtain ⟨d0, d1⟩ := K2.out.se (B := D) (s := ⟨st, sp⟩) (t := 41) (by simp)
  simp only at e0 e1 e2 e3 e4 e5 e6 d0 d1
  go_wp2_with fail
  refine (HS.out _).mono ?_
  rintro e Y2 ⟨rfl, b1⟩
  have K3 := hid (K2.out.next b1)
  clear e0 e1 e2 e3 e4 e5 e6 d0 d1 b1 K2
  obtain ⟨e0, e1, e2, e3, e4, e5, e6⟩ := K3.out.cl (B := B) (x := x) (r := ⟨ra, rac, rb, rbc, rc, rcc⟩) (t := 30) (by simp)
  obtain ⟨d0, d1⟩ := K3.out.se (B := D) (s := ⟨st, sp⟩) (t := 41) (by simp)
  simp only at e0 e1 e2 e3 e4 e5 e6 d0 d1
  go_wp2_with fail
  go_ret2
  exact Did.mk (by rw [Ht.out, Hp.out]; rfl) K3.out.2
set_option maxRecDepth 8000 in
set_option maxHeartbeats 2000000 in
theorem r_CosttP (x : Cl) (r : Cw) (s : Se) (hs : seatB x s = true) (ht : ¬ 0 ≤ s.t) (hp : 0 ≤ s.p) (w : World) (h : Clw w w.heap.size x r) : Calls Try.prog 19 #[cv x r, sv s] w (Did (.tuple #[.int .i64 (costT x s), .int .i64 (costP x s)]) w) := by
  have HS := hid (fun X => r_Seat x r s X)
  rw [hs] at HS
  obtain ⟨k1, k2, k3, k4⟩ := (seatB_iff x s).1 hs
  have Ht := hid (show costT x s = 0 by unfold costT; rw [hs, decide_eq_false ht]; rfl)
  have Hp := hid (show costP x s = (x.l.getD s.p.toNat ⟨0, 0⟩).c by unfold costP; rw [hs, decide_eq_true hp]; rfl)
  generalize costT x s = ct at *
  generalize costP x s = cp at *
  obtain ⟨st, sp⟩ := s
  obtain ⟨ra, rac, rb, rbc, rc, rcc⟩ := r
  simp only at ht hp k1 k2 k3 k4 Ht Hp
  have H := hid h
  obtain ⟨_, h1, h2⟩ := h
  simp only at h1 h2
  obtain ⟨ae, m, z, rfl, rfl, hz, _, hml, q0, q1⟩ := pl_cell h2 hp k4
  rw [hz.out] at Hp
  have bp := (World.block_lt_of_cell? _ _ q0)
  clear h1 h2 hs
  obtain ⟨B, W, hB, hW, K, z0⟩ := (Mem.nil w).one (ccl x ⟨ra, rac, rb, rbc, some ae, rcc⟩) 30
  obtain ⟨D, V, hD, hV, K1, z1⟩ := K.out.one (sc ⟨st, ((m : Nat) : Int)⟩) 41
  clear K z0 z1
  obtain ⟨e0, e1, e2, e3, e4, e5, e6⟩ := K1.out.cl (B := B) (x := x) (r := ⟨ra, rac, rb, rbc, some ae, rcc⟩) (t := 30) (by simp)
  obtain ⟨d0, d1⟩ := K1.out.se (B := D) (s := ⟨st, ((m : Nat) : Int)⟩) (t := 41) (by simp)
  simp only at e0 e1 e2 e3 e4 e5 e6 d0 d1
  have g1 := (K1.out.2.cell (p := ⟨(ae.add (m * 2)).block, (ae.add (m * 2)).off + 1, none⟩) bp).trans q1
  go_enter Try.func19, Try.ntmps19
  go_wp2_with fail
  refine (HS.out _).mono ?_
  rintro e Y1 ⟨rfl, b1⟩
  have K2 := hid (K1.out.next b1)
  clear e0 e1 e2 e3 e4 e5 e6 d0 d1 g1 b1 K1
  obtain ⟨e0, e1, e2, e3, e4, e5, e6⟩ := K2.out.cl (B := B) (x := x) (r := ⟨ra, rac, rb, rbc, some ae, rcc⟩) (t := 30) (by simp)
  obtain ⟨d0, d1⟩ := K2.out.se (B := D) (s := ⟨st, ((m : Nat) : Int)⟩) (t := 41) (by simp)
  simp only at e0 e1 e2 e3 e4 e5 e6 d0 d1
  have g1 := (K2.out.2.cell (p := ⟨(ae.add (m * 2)).block, (ae.add (m * 2)).off + 1, none⟩) bp).trans q1
  go_wp2_with fail
  refine (HS.out _).mono ?_
  rintro e Y2 ⟨rfl, b1⟩
  have K3 := hid (K2.out.next b1)
  clear e0 e1 e2 e3 e4 e5 e6 d0 d1 g1 b1 K2
  obtain ⟨e0, e1, e2, e3, e4, e5, e6⟩ := K3.out.cl (B := B) (x := x) (r := ⟨ra, rac, rb, rbc, some ae, rcc⟩) (t := 30) (by simp)
  obtain ⟨d0, d1⟩ := K3.out.se (B := D) (s := ⟨st, ((m : Nat) : Int)⟩) (t := 41) (by simp)
  simp only at e0 e1 e2 e3 e4 e5 e6 d0 d1
  have g1 := (K3.out.2.cell (p := ⟨(ae.add (m * 2)).block, (ae.add (m * 2)).off + 1, none⟩) bp).trans q1
  go_wp2_with fail
  go_ret2
  exact Did.mk (by rw [Ht.out, Hp.out]; rfl) K3.out.2
set_option maxRecDepth 8000 in
set_option maxHeartbeats 2000000 in
theorem r_CostTp (x : Cl) (r : Cw) (s : Se) (hs : seatB x s = true) (ht : 0 ≤ s.t) (hp : ¬ 0 ≤ s.p) (w : World) (h : Clw w w.heap.size x r) : Calls Try.prog 19 #[cv x r, sv s] w (Did (.tuple #[.int .i64 (costT x s), .int .i64 (costP x s)]) w) := by
  have HS := hid (fun X => r_Seat x r s X)
  rw [hs] at HS
  obtain ⟨k1, k2, k3, k4⟩ := (seatB_iff x s).1 hs
  have Ht := hid (show costT x s = (x.t.getD s.t.toNat ⟨⟨0, 0, 0, 0⟩, 0⟩).c by unfold costT; rw [hs, decide_eq_true ht]; rfl)
  have Hp := hid (show costP x s = 0 by unfold costP; rw [hs, decide_eq_false hp]; rfl)
  generalize costT x s = ct at *
  generalize costP x s = cp at *
  obtain ⟨st, sp⟩ := s
  obtain ⟨ra, rac, rb, rbc, rc, rcc⟩ := r
  simp only at ht hp k1 k2 k3 k4 Ht Hp
  have H := hid h
  obtain ⟨_, h1, h2⟩ := h
  simp only at h1 h2
  obtain ⟨ad, k, y, rfl, rfl, hy, _, hkl, a0, a1, a2, a3, a4⟩ := tm_cell h1 ht k2
  rw [hy.out] at Ht
  have bt := (World.block_lt_of_cell? _ _ a0)
  clear h1 h2 hs
  obtain ⟨B, W, hB, hW, K, z0⟩ := (Mem.nil w).one (ccl x ⟨ra, rac, some ad, rbc, rc, rcc⟩) 30
  obtain ⟨D, V, hD, hV, K1, z1⟩ := K.out.one (sc ⟨((k : Nat) : Int), sp⟩) 41
  clear K z0 z1
  obtain ⟨e0, e1, e2, e3, e4, e5, e6⟩ := K1.out.cl (B := B) (x := x) (r := ⟨ra, rac, some ad, rbc, rc, rcc⟩) (t := 30) (by simp)
  obtain ⟨d0, d1⟩ := K1.out.se (B := D) (s := ⟨((k : Nat) : Int), sp⟩) (t := 41) (by simp)
  simp only at e0 e1 e2 e3 e4 e5 e6 d0 d1
  have f4 := (K1.out.2.cell (p := ⟨(ad.add (k * 5)).block, (ad.add (k * 5)).off + 4, none⟩) bt).trans a4
  go_enter Try.func19, Try.ntmps19
  go_wp2_with fail
  refine (HS.out _).mono ?_
  rintro e Y1 ⟨rfl, b1⟩
  have K2 := hid (K1.out.next b1)
  clear e0 e1 e2 e3 e4 e5 e6 d0 d1 f4 b1 K1
  obtain ⟨e0, e1, e2, e3, e4, e5, e6⟩ := K2.out.cl (B := B) (x := x) (r := ⟨ra, rac, some ad, rbc, rc, rcc⟩) (t := 30) (by simp)
  obtain ⟨d0, d1⟩ := K2.out.se (B := D) (s := ⟨((k : Nat) : Int), sp⟩) (t := 41) (by simp)
  simp only at e0 e1 e2 e3 e4 e5 e6 d0 d1
  have f4 := (K2.out.2.cell (p := ⟨(ad.add (k * 5)).block, (ad.add (k * 5)).off + 4, none⟩) bt).trans a4
  go_wp2_with fail
  refine (HS.out _).mono ?_
  rintro e Y2 ⟨rfl, b1⟩
  have K3 := hid (K2.out.next b1)
  clear e0 e1 e2 e3 e4 e5 e6 d0 d1 f4 b1 K2
  obtain ⟨e0, e1, e2, e3, e4, e5, e6⟩ := K3.out.cl (B := B) (x := x) (r := ⟨ra, rac, some ad, rbc, rc, rcc⟩) (t := 30) (by simp)
  obtain ⟨d0, d1⟩ := K3.out.se (B := D) (s := ⟨((k : Nat) : Int), sp⟩) (t := 41) (by simp)
  simp only at e0 e1 e2 e3 e4 e5 e6 d0 d1
  have f4 := (K3.out.2.cell (p := ⟨(ad.add (k * 5)).block, (ad.add (k * 5)).off + 4, none⟩) bt).trans a4
  go_wp2_with fail
  go_ret2
  exact Did.mk (by rw [Ht.out, Hp.out]; rfl) K3.out.2
set_option maxRecDepth 8000 in
set_option maxHeartbeats 2000000 in
theorem r_CostTP (x : Cl) (r : Cw) (s : Se) (hs : seatB x s = true) (ht : 0 ≤ s.t) (hp : 0 ≤ s.p) (w : World) (h : Clw w w.heap.size x r) : Calls Try.prog 19 #[cv x r, sv s] w (Did (.tuple #[.int .i64 (costT x s), .int .i64 (costP x s)]) w) := by
  have HS := hid (fun X => r_Seat x r s X)
  rw [hs] at HS
  obtain ⟨k1, k2, k3, k4⟩ := (seatB_iff x s).1 hs
  have Ht := hid (show costT x s = (x.t.getD s.t.toNat ⟨⟨0, 0, 0, 0⟩, 0⟩).c by unfold costT; rw [hs, decide_eq_true ht]; rfl)
  have Hp := hid (show costP x s = (x.l.getD s.p.toNat ⟨0, 0⟩).c by unfold costP; rw [hs, decide_eq_true hp]; rfl)
  generalize costT x s = ct at *
  generalize costP x s = cp at *
  obtain ⟨st, sp⟩ := s
  obtain ⟨ra, rac, rb, rbc, rc, rcc⟩ := r
  simp only at ht hp k1 k2 k3 k4 Ht Hp
  have H := hid h
  obtain ⟨_, h1, h2⟩ := h
  simp only at h1 h2
  obtain ⟨ad, k, y, rfl, rfl, hy, _, hkl, a0, a1, a2, a3, a4⟩ := tm_cell h1 ht k2
  rw [hy.out] at Ht
  have bt := (World.block_lt_of_cell? _ _ a0)
  obtain ⟨ae, m, z, rfl, rfl, hz, _, hml, q0, q1⟩ := pl_cell h2 hp k4
  rw [hz.out] at Hp
  have bp := (World.block_lt_of_cell? _ _ q0)
  clear h1 h2 hs
  obtain ⟨B, W, hB, hW, K, z0⟩ := (Mem.nil w).one (ccl x ⟨ra, rac, some ad, rbc, some ae, rcc⟩) 30
  obtain ⟨D, V, hD, hV, K1, z1⟩ := K.out.one (sc ⟨((k : Nat) : Int), ((m : Nat) : Int)⟩) 41
  clear K z0 z1
  obtain ⟨e0, e1, e2, e3, e4, e5, e6⟩ := K1.out.cl (B := B) (x := x) (r := ⟨ra, rac, some ad, rbc, some ae, rcc⟩) (t := 30) (by simp)
  obtain ⟨d0, d1⟩ := K1.out.se (B := D) (s := ⟨((k : Nat) : Int), ((m : Nat) : Int)⟩) (t := 41) (by simp)
  simp only at e0 e1 e2 e3 e4 e5 e6 d0 d1
  have f4 := (K1.out.2.cell (p := ⟨(ad.add (k * 5)).block, (ad.add (k * 5)).off + 4, none⟩) bt).trans a4
  have g1 := (K1.out.2.cell (p := ⟨(ae.add (m * 2)).block, (ae.add (m * 2)).off + 1, none⟩) bp).trans q1
  go_enter Try.func19, Try.ntmps19
  go_wp2_with fail
  refine (HS.out _).mono ?_
  rintro e Y1 ⟨rfl, b1⟩
  have K2 := hid (K1.out.next b1)
  clear e0 e1 e2 e3 e4 e5 e6 d0 d1 f4 g1 b1 K1
  obtain ⟨e0, e1, e2, e3, e4, e5, e6⟩ := K2.out.cl (B := B) (x := x) (r := ⟨ra, rac, some ad, rbc, some ae, rcc⟩) (t := 30) (by simp)
  obtain ⟨d0, d1⟩ := K2.out.se (B := D) (s := ⟨((k : Nat) : Int), ((m : Nat) : Int)⟩) (t := 41) (by simp)
  simp only at e0 e1 e2 e3 e4 e5 e6 d0 d1
  have f4 := (K2.out.2.cell (p := ⟨(ad.add (k * 5)).block, (ad.add (k * 5)).off + 4, none⟩) bt).trans a4
  have g1 := (K2.out.2.cell (p := ⟨(ae.add (m * 2)).block, (ae.add (m * 2)).off + 1, none⟩) bp).trans q1
  go_wp2_with fail
  refine (HS.out _).mono ?_
  rintro e Y2 ⟨rfl, b1⟩
  have K3 := hid (K2.out.next b1)
  clear e0 e1 e2 e3 e4 e5 e6 d0 d1 f4 g1 b1 K2
  obtain ⟨e0, e1, e2, e3, e4, e5, e6⟩ := K3.out.cl (B := B) (x := x) (r := ⟨ra, rac, some ad, rbc, some ae, rcc⟩) (t := 30) (by simp)
  obtain ⟨d0, d1⟩ := K3.out.se (B := D) (s := ⟨((k : Nat) : Int), ((m : Nat) : Int)⟩) (t := 41) (by simp)
  simp only at e0 e1 e2 e3 e4 e5 e6 d0 d1
  have f4 := (K3.out.2.cell (p := ⟨(ad.add (k * 5)).block, (ad.add (k * 5)).off + 4, none⟩) bt).trans a4
  have g1 := (K3.out.2.cell (p := ⟨(ae.add (m * 2)).block, (ae.add (m * 2)).off + 1, none⟩) bp).trans q1
  go_wp2_with fail
  go_ret2
  exact Did.mk (by rw [Ht.out, Hp.out]; rfl) K3.out.2
theorem r_Cost (x : Cl) (r : Cw) (s : Se) (w : World) (h : Clw w w.heap.size x r) : Calls Try.prog 19 #[cv x r, sv s] w (Did (.tuple #[.int .i64 (costT x s), .int .i64 (costP x s)]) w) := by
  cases hs : seatB x s with
  | false => exact r_CostN x r s hs w h
  | true =>
    by_cases ht : 0 ≤ s.t
    · by_cases hp : 0 ≤ s.p
      · exact r_CostTP x r s hs ht hp w h
      · exact r_CostTp x r s hs ht hp w h
    · by_cases hp : 0 ≤ s.p
      · exact r_CosttP x r s hs ht hp w h
      · exact r_Costtp x r s hs ht hp w h
end Go.Proofs.Ytcnpfchopjopeaa
