/- Contracts of the program's own functions of layer 13 (class): Spot. -/
import Derived.Test.YtcnpfchopjopeaaClsQ
namespace Go.Proofs.Ytcnpfchopjopeaa
open Go.RowKit
open Whn (Gr Wh)

set_option maxRecDepth 8000 in
set_option maxHeartbeats 2000000 in
theorem p_SpotN (x : Cl) (r : Cw) (s : Se) (hN : x.t.length ≤ maxLen) (hM : x.l.length ≤ maxLen) (hs : seatB x s = false) (w : World) (h : Clw w w.heap.size x r) : Calls Try.prog 16 #[cv x r, sv s] w (Did (.tuple #[spv (spW x s) (spR x s), .bool false]) w) := by
  have HS := hid (fun X => p_Seat x r s hN hM X)
  rw [hs] at HS
  have Ht := hid (show spW x s = ⟨0, 0, 0, 0⟩ by unfold spW; rw [hs]; rfl)
  have Hp := hid (show spR x s = 0 by unfold spR; rw [hs, if_neg (by decide)])
  generalize spW x s = ct at *
  generalize spR x s = cp at *
  obtain ⟨st, sp⟩ := s
  obtain ⟨ra, rac, rb, rbc, rc, rcc⟩ := r
  obtain ⟨_, h1, h2⟩ := h
  simp only at h1 h2
  clear h1 h2 hs hN hM
  obtain ⟨B, W, hB, hW, K, z0⟩ := (Mem.nil w).one (ccl x ⟨ra, rac, rb, rbc, rc, rcc⟩) 30
  obtain ⟨D, V, hD, hV, K1, z1⟩ := K.out.one (sc ⟨st, sp⟩) 41
  obtain ⟨R, U, hR, hU, K2, z2⟩ := K1.out.one [.int .u32 0, .int .u8 0, .int .i64 0, .int .i64 0, .int .i64 0] 48
  have hBD : w.heap.size ≤ B ∧ B < D ∧ D < R := by
    have q1 := (K.out.at_ (b := B) (cs := ccl x ⟨ra, rac, rb, rbc, rc, rcc⟩) (t := 30) (by simp)).lt
    have q2 := (K1.out.at_ (b := D) (cs := sc ⟨st, sp⟩) (t := 41) (by simp)).lt
    omega
  have HBD := hid hBD
  clear K K1 z0 z1 z2 hBD
  obtain ⟨e0, e1, e2, e3, e4, e5, e6⟩ := K2.out.cl (B := B) (x := x) (r := ⟨ra, rac, rb, rbc, rc, rcc⟩) (t := 30) (by simp)
  obtain ⟨d0, d1⟩ := K2.out.se (B := D) (s := ⟨st, sp⟩) (t := 41) (by simp)
  simp only at e0 e1 e2 e3 e4 e5 e6 d0 d1
  go_enter Try.func16, Try.ntmps16
  go_wp2_with fail
  refine (HS.out _).mono ?_
  rintro e Y1 ⟨rfl, b1⟩
  have K3 := hid (K2.out.next b1)
  clear e0 e1 e2 e3 e4 e5 e6 d0 d1 b1 K2 HS
  obtain ⟨e0, e1, e2, e3, e4, e5, e6⟩ := K3.out.cl (B := B) (x := x) (r := ⟨ra, rac, rb, rbc, rc, rcc⟩) (t := 30) (by simp)
  obtain ⟨d0, d1⟩ := K3.out.se (B := D) (s := ⟨st, sp⟩) (t := 41) (by simp)
  simp only at e0 e1 e2 e3 e4 e5 e6 d0 d1
  obtain ⟨r0, r1, r2, r3, r4⟩ := K3.out.l5 (B := R) (t := 48) (x0 := .int .u32 0) (x1 := .int .u8 0) (x2 := .int .i64 0) (x3 := .int .i64 0) (x4 := .int .i64 0) (by simp)
  obtain ⟨s0, s1, s2, s3, s4⟩ := K3.out.f5 (B := R) (cs := [.int .u32 0, .int .u8 0, .int .i64 0, .int .i64 0, .int .i64 0]) (t := 48) (by simp)
  have KR := hid (((K3.out.sub (l' := [(R, [.int .u32 0, .int .u8 0, .int .i64 0, .int .i64 0, .int .i64 0], 48)]) (by simp)).four5 (by have := HBD.out; omega) (by intro p hp; cases hp) (.int .u32 0) (.int .u8 0) (.int .i64 0) (.int .i64 0)).fifth (by have := HBD.out; omega) (by intro p hp; cases hp) (.int .i64 0))
  go_wp2_with fail
  have hct := Ht.out
  have hcp := Hp.out
  subst hct
  subst hcp
  obtain ⟨y0, y1, y2, y3, y4⟩ := KR.out.l5 (B := R) (t := 48) (x0 := .int .u32 0) (x1 := .int .u8 0) (x2 := .int .i64 0) (x3 := .int .i64 0) (x4 := .int .i64 0) (by simp)
  exact bodyPost_ret (v := .tuple #[.agg #[.int .u32 0, .int .u8 0, .int .i64 0, .int .i64 0, .int .i64 0], .bool false]) (by simp [results, Try.results16, go_sem, y0, y1, y2, y3, y4]) rfl (Did.mk rfl KR.out.2)
set_option maxRecDepth 8000 in
set_option maxHeartbeats 2000000 in
theorem p_SpottP (x : Cl) (r : Cw) (s : Se) (hN : x.t.length ≤ maxLen) (hM : x.l.length ≤ maxLen) (hs : seatB x s = true) (ht : ¬ 0 ≤ s.t) (hp : 0 ≤ s.p) (w : World) (h : Clw w w.heap.size x r) : Calls Try.prog 16 #[cv x r, sv s] w (Did (.tuple #[spv (spW x s) (spR x s), .bool true]) w) := by
  have HS := hid (fun X => p_Seat x r s hN hM X)
  rw [hs] at HS
  obtain ⟨k1, k2, k3, k4⟩ := (seatB_iff x s).1 hs
  have Ht := hid (show spW x s = ⟨0, 0, 0, 0⟩ by unfold spW; rw [hs, decide_eq_false ht]; rfl)
  have Hp := hid (show spR x s = (x.l.getD s.p.toNat ⟨0, 0⟩).r by unfold spR; rw [hs, if_pos rfl, if_pos hp])
  generalize spW x s = ct at *
  generalize spR x s = cp at *
  obtain ⟨st, sp⟩ := s
  obtain ⟨ra, rac, rb, rbc, rc, rcc⟩ := r
  simp only at ht hp k1 k2 k3 k4 Ht Hp
  obtain ⟨_, h1, h2⟩ := h
  simp only at h1 h2
  obtain ⟨ae, m, z, rfl, rfl, hz, _, hml, q0, q1⟩ := pl_cell h2 hp k4
  rw [hz.out] at Hp
  have bp := (World.block_lt_of_cell? _ _ q0)
  obtain rfl : st = -1 := by omega
  have n2 : (((m : Nat) : Int) != -1) = true := by rw [bne_iff_ne]; omega
  clear h1 h2 hs hN hM
  obtain ⟨B, W, hB, hW, K, z0⟩ := (Mem.nil w).one (ccl x ⟨ra, rac, rb, rbc, some ae, rcc⟩) 30
  obtain ⟨D, V, hD, hV, K1, z1⟩ := K.out.one (sc ⟨-1, ((m : Nat) : Int)⟩) 41
  obtain ⟨R, U, hR, hU, K2, z2⟩ := K1.out.one [.int .u32 0, .int .u8 0, .int .i64 0, .int .i64 0, .int .i64 0] 48
  have hBD : w.heap.size ≤ B ∧ B < D ∧ D < R := by
    have q1 := (K.out.at_ (b := B) (cs := ccl x ⟨ra, rac, rb, rbc, some ae, rcc⟩) (t := 30) (by simp)).lt
    have q2 := (K1.out.at_ (b := D) (cs := sc ⟨-1, ((m : Nat) : Int)⟩) (t := 41) (by simp)).lt
    omega
  have HBD := hid hBD
  clear K K1 z0 z1 z2 hBD
  obtain ⟨e0, e1, e2, e3, e4, e5, e6⟩ := K2.out.cl (B := B) (x := x) (r := ⟨ra, rac, rb, rbc, some ae, rcc⟩) (t := 30) (by simp)
  obtain ⟨d0, d1⟩ := K2.out.se (B := D) (s := ⟨-1, ((m : Nat) : Int)⟩) (t := 41) (by simp)
  simp only at e0 e1 e2 e3 e4 e5 e6 d0 d1
  go_enter Try.func16, Try.ntmps16
  go_wp2_with fail
  refine (HS.out _).mono ?_
  rintro e Y1 ⟨rfl, b1⟩
  have K3 := hid (K2.out.next b1)
  clear e0 e1 e2 e3 e4 e5 e6 d0 d1 b1 K2 HS
  obtain ⟨e0, e1, e2, e3, e4, e5, e6⟩ := K3.out.cl (B := B) (x := x) (r := ⟨ra, rac, rb, rbc, some ae, rcc⟩) (t := 30) (by simp)
  obtain ⟨d0, d1⟩ := K3.out.se (B := D) (s := ⟨-1, ((m : Nat) : Int)⟩) (t := 41) (by simp)
  simp only at e0 e1 e2 e3 e4 e5 e6 d0 d1
  obtain ⟨T, U2, hT, hU2, K4, z3⟩ := K3.out.one [.int .u32 0, .int .u8 0, .int .i64 0, .int .i64 0, .int .i64 (-1)] 48
  have HT := hid (show R < T from by
    have q1 := (K3.out.at_ (b := R) (cs := [.int .u32 0, .int .u8 0, .int .i64 0, .int .i64 0, .int .i64 0]) (t := 48) (by simp)).lt
    omega)
  clear e0 e1 e2 e3 e4 e5 e6 d0 d1 K3 z3
  obtain ⟨e0, e1, e2, e3, e4, e5, e6⟩ := K4.out.cl (B := B) (x := x) (r := ⟨ra, rac, rb, rbc, some ae, rcc⟩) (t := 30) (by simp)
  obtain ⟨d0, d1⟩ := K4.out.se (B := D) (s := ⟨-1, ((m : Nat) : Int)⟩) (t := 41) (by simp)
  simp only at e0 e1 e2 e3 e4 e5 e6 d0 d1
  have g0 := (K4.out.2.cell (p := ae.add (m * 2)) bp).trans q0
  obtain ⟨t0, t1, t2, t3, t4⟩ := K4.out.l5 (B := T) (t := 48) (x0 := .int .u32 0) (x1 := .int .u8 0) (x2 := .int .i64 0) (x3 := .int .i64 0) (x4 := .int .i64 (-1)) (by simp)
  obtain ⟨u0, u1, u2, u3, u4⟩ := K4.out.f5 (B := T) (cs := [.int .u32 0, .int .u8 0, .int .i64 0, .int .i64 0, .int .i64 (-1)]) (t := 48) (by simp)
  have KT0 := hid (K4.out.sub (l' := (T, [.int .u32 0, .int .u8 0, .int .i64 0, .int .i64 0, .int .i64 (-1)], 48) :: [(D, sc ⟨-1, ((m : Nat) : Int)⟩, 41), (B, ccl x ⟨ra, rac, rb, rbc, some ae, rcc⟩, 30), (R, [.int .u32 0, .int .u8 0, .int .i64 0, .int .i64 0, .int .i64 0], 48)]) (by intro p hp; simp only [List.mem_cons, List.not_mem_nil, or_false] at hp ⊢; rcases hp with rfl | rfl | rfl | rfl <;> simp))
  have Hne := hid (show ∀ p ∈ ([(D, sc ⟨-1, ((m : Nat) : Int)⟩, 41), (B, ccl x ⟨ra, rac, rb, rbc, some ae, rcc⟩, 30), (R, [.int .u32 0, .int .u8 0, .int .i64 0, .int .i64 0, .int .i64 0], 48)] : Obs), p.1 ≠ T from (by
    intro p hp
    have hq := HBD.out
    have hr := HT.out
    simp only [List.mem_cons, List.not_mem_nil, or_false] at hp
    rcases hp with rfl | rfl | rfl
    · show D ≠ T; omega
    · show B ≠ T; omega
    · show R ≠ T; omega))
  have hTw : w.heap.size ≤ T := by have := HBD.out; have := HT.out; omega
  go_upto_region 10 with fail
  obtain ⟨Z2, hZ2⟩ : ∃ Z, U2.setCell ⟨T, 4, none⟩ (.int .i64 z.r) = Z := ⟨_, rfl⟩
  have KT2 := hid (KT0.out.fifth hTw Hne.out (.int .i64 z.r))
  rw [hZ2] at KT2
  rw [hZ2]
  clear e0 e1 e2 e3 e4 e5 e6 d0 d1 t0 t1 t2 t3 t4 u0 u1 u2 u3 u4 g0 K4 KT0 hZ2
  obtain ⟨e0, e1, e2, e3, e4, e5, e6⟩ := KT2.out.cl (B := B) (x := x) (r := ⟨ra, rac, rb, rbc, some ae, rcc⟩) (t := 30) (by simp)
  obtain ⟨d0, d1⟩ := KT2.out.se (B := D) (s := ⟨-1, ((m : Nat) : Int)⟩) (t := 41) (by simp)
  simp only at e0 e1 e2 e3 e4 e5 e6 d0 d1
  obtain ⟨t0, t1, t2, t3, t4⟩ := KT2.out.l5 (B := T) (t := 48) (x0 := .int .u32 0) (x1 := .int .u8 0) (x2 := .int .i64 0) (x3 := .int .i64 0) (x4 := .int .i64 z.r) (by simp)
  obtain ⟨u0, u1, u2, u3, u4⟩ := KT2.out.f5 (B := T) (cs := [.int .u32 0, .int .u8 0, .int .i64 0, .int .i64 0, .int .i64 z.r]) (t := 48) (by simp)
  obtain ⟨r0, r1, r2, r3, r4⟩ := KT2.out.l5 (B := R) (t := 48) (x0 := .int .u32 0) (x1 := .int .u8 0) (x2 := .int .i64 0) (x3 := .int .i64 0) (x4 := .int .i64 0) (by simp)
  obtain ⟨s0, s1, s2, s3, s4⟩ := KT2.out.f5 (B := R) (cs := [.int .u32 0, .int .u8 0, .int .i64 0, .int .i64 0, .int .i64 0]) (t := 48) (by simp)
  have KR := hid (((KT2.out.sub (l' := [(R, [.int .u32 0, .int .u8 0, .int .i64 0, .int .i64 0, .int .i64 0], 48)]) (by simp)).four5 (by have := HBD.out; omega) (by intro p hp; cases hp) (.int .u32 0) (.int .u8 0) (.int .i64 0) (.int .i64 0)).fifth (by have := HBD.out; omega) (by intro p hp; cases hp) (.int .i64 z.r))
  go_wp2_with fail
  have hct := Ht.out
  have hcp := Hp.out
  subst hct
  subst hcp
  obtain ⟨y0, y1, y2, y3, y4⟩ := KR.out.l5 (B := R) (t := 48) (x0 := .int .u32 0) (x1 := .int .u8 0) (x2 := .int .i64 0) (x3 := .int .i64 0) (x4 := .int .i64 z.r) (by simp)
  exact bodyPost_ret (v := .tuple #[.agg #[.int .u32 0, .int .u8 0, .int .i64 0, .int .i64 0, .int .i64 z.r], .bool true]) (by simp [results, Try.results16, go_sem, y0, y1, y2, y3, y4]) rfl (Did.mk rfl KR.out.2)
set_option maxRecDepth 8000 in
set_option maxHeartbeats 2000000 in
theorem p_Spottm (x : Cl) (r : Cw) (s : Se) (hN : x.t.length ≤ maxLen) (hM : x.l.length ≤ maxLen) (hs : seatB x s = true) (ht : ¬ 0 ≤ s.t) (hp : ¬ 0 ≤ s.p) (hl : 0 < x.l.length) (w : World) (h : Clw w w.heap.size x r) : Calls Try.prog 16 #[cv x r, sv s] w (Did (.tuple #[spv (spW x s) (spR x s), .bool true]) w) := by
  have HS := hid (fun X => p_Seat x r s hN hM X)
  rw [hs] at HS
  obtain ⟨k1, k2, k3, k4⟩ := (seatB_iff x s).1 hs
  have Ht := hid (show spW x s = ⟨0, 0, 0, 0⟩ by unfold spW; rw [hs, decide_eq_false ht]; rfl)
  have Hp := hid (show spR x s = -2 by unfold spR; rw [hs, if_pos rfl, if_neg hp, if_pos hl])
  generalize spW x s = ct at *
  generalize spR x s = cp at *
  obtain ⟨st, sp⟩ := s
  obtain ⟨ra, rac, rb, rbc, rc, rcc⟩ := r
  simp only at ht hp k1 k2 k3 k4 Ht Hp
  obtain ⟨_, h1, h2⟩ := h
  simp only at h1 h2
  obtain rfl : st = -1 := by omega
  obtain rfl : sp = -1 := by omega
  clear h1 h2 hs hN hM
  obtain ⟨B, W, hB, hW, K, z0⟩ := (Mem.nil w).one (ccl x ⟨ra, rac, rb, rbc, rc, rcc⟩) 30
  obtain ⟨D, V, hD, hV, K1, z1⟩ := K.out.one (sc ⟨-1, -1⟩) 41
  obtain ⟨R, U, hR, hU, K2, z2⟩ := K1.out.one [.int .u32 0, .int .u8 0, .int .i64 0, .int .i64 0, .int .i64 0] 48
  have hBD : w.heap.size ≤ B ∧ B < D ∧ D < R := by
    have q1 := (K.out.at_ (b := B) (cs := ccl x ⟨ra, rac, rb, rbc, rc, rcc⟩) (t := 30) (by simp)).lt
    have q2 := (K1.out.at_ (b := D) (cs := sc ⟨-1, -1⟩) (t := 41) (by simp)).lt
    omega
  have HBD := hid hBD
  clear K K1 z0 z1 z2 hBD
  obtain ⟨e0, e1, e2, e3, e4, e5, e6⟩ := K2.out.cl (B := B) (x := x) (r := ⟨ra, rac, rb, rbc, rc, rcc⟩) (t := 30) (by simp)
  obtain ⟨d0, d1⟩ := K2.out.se (B := D) (s := ⟨-1, -1⟩) (t := 41) (by simp)
  simp only at e0 e1 e2 e3 e4 e5 e6 d0 d1
  go_enter Try.func16, Try.ntmps16
  go_wp2_with fail
  refine (HS.out _).mono ?_
  rintro e Y1 ⟨rfl, b1⟩
  have K3 := hid (K2.out.next b1)
  clear e0 e1 e2 e3 e4 e5 e6 d0 d1 b1 K2 HS
  obtain ⟨e0, e1, e2, e3, e4, e5, e6⟩ := K3.out.cl (B := B) (x := x) (r := ⟨ra, rac, rb, rbc, rc, rcc⟩) (t := 30) (by simp)
  obtain ⟨d0, d1⟩ := K3.out.se (B := D) (s := ⟨-1, -1⟩) (t := 41) (by simp)
  simp only at e0 e1 e2 e3 e4 e5 e6 d0 d1
  obtain ⟨T, U2, hT, hU2, K4, z3⟩ := K3.out.one [.int .u32 0, .int .u8 0, .int .i64 0, .int .i64 0, .int .i64 (-1)] 48
  have HT := hid (show R < T from by
    have q1 := (K3.out.at_ (b := R) (cs := [.int .u32 0, .int .u8 0, .int .i64 0, .int .i64 0, .int .i64 0]) (t := 48) (by simp)).lt
    omega)
  clear e0 e1 e2 e3 e4 e5 e6 d0 d1 K3 z3
  obtain ⟨e0, e1, e2, e3, e4, e5, e6⟩ := K4.out.cl (B := B) (x := x) (r := ⟨ra, rac, rb, rbc, rc, rcc⟩) (t := 30) (by simp)
  obtain ⟨d0, d1⟩ := K4.out.se (B := D) (s := ⟨-1, -1⟩) (t := 41) (by simp)
  simp only at e0 e1 e2 e3 e4 e5 e6 d0 d1
  obtain ⟨t0, t1, t2, t3, t4⟩ := K4.out.l5 (B := T) (t := 48) (x0 := .int .u32 0) (x1 := .int .u8 0) (x2 := .int .i64 0) (x3 := .int .i64 0) (x4 := .int .i64 (-1)) (by simp)
  obtain ⟨u0, u1, u2, u3, u4⟩ := K4.out.f5 (B := T) (cs := [.int .u32 0, .int .u8 0, .int .i64 0, .int .i64 0, .int .i64 (-1)]) (t := 48) (by simp)
  have KT0 := hid (K4.out.sub (l' := (T, [.int .u32 0, .int .u8 0, .int .i64 0, .int .i64 0, .int .i64 (-1)], 48) :: [(D, sc ⟨-1, -1⟩, 41), (B, ccl x ⟨ra, rac, rb, rbc, rc, rcc⟩, 30), (R, [.int .u32 0, .int .u8 0, .int .i64 0, .int .i64 0, .int .i64 0], 48)]) (by intro p hp; simp only [List.mem_cons, List.not_mem_nil, or_false] at hp ⊢; rcases hp with rfl | rfl | rfl | rfl <;> simp))
  have Hne := hid (show ∀ p ∈ ([(D, sc ⟨-1, -1⟩, 41), (B, ccl x ⟨ra, rac, rb, rbc, rc, rcc⟩, 30), (R, [.int .u32 0, .int .u8 0, .int .i64 0, .int .i64 0, .int .i64 0], 48)] : Obs), p.1 ≠ T from (by
    intro p hp
    have hq := HBD.out
    have hr := HT.out
    simp only [List.mem_cons, List.not_mem_nil, or_false] at hp
    rcases hp with rfl | rfl | rfl
    · show D ≠ T; omega
    · show B ≠ T; omega
    · show R ≠ T; omega))
  have hTw : w.heap.size ≤ T := by have := HBD.out; have := HT.out; omega
  go_upto_region 10 with fail
  obtain ⟨Z2, hZ2⟩ : ∃ Z, U2.setCell ⟨T, 4, none⟩ (.int .i64 (-2)) = Z := ⟨_, rfl⟩
  have KT2 := hid (KT0.out.fifth hTw Hne.out (.int .i64 (-2)))
  rw [hZ2] at KT2
  rw [hZ2]
  clear e0 e1 e2 e3 e4 e5 e6 d0 d1 t0 t1 t2 t3 t4 u0 u1 u2 u3 u4 K4 KT0 hZ2
  obtain ⟨e0, e1, e2, e3, e4, e5, e6⟩ := KT2.out.cl (B := B) (x := x) (r := ⟨ra, rac, rb, rbc, rc, rcc⟩) (t := 30) (by simp)
  obtain ⟨d0, d1⟩ := KT2.out.se (B := D) (s := ⟨-1, -1⟩) (t := 41) (by simp)
  simp only at e0 e1 e2 e3 e4 e5 e6 d0 d1
  obtain ⟨t0, t1, t2, t3, t4⟩ := KT2.out.l5 (B := T) (t := 48) (x0 := .int .u32 0) (x1 := .int .u8 0) (x2 := .int .i64 0) (x3 := .int .i64 0) (x4 := .int .i64 (-2)) (by simp)
  obtain ⟨u0, u1, u2, u3, u4⟩ := KT2.out.f5 (B := T) (cs := [.int .u32 0, .int .u8 0, .int .i64 0, .int .i64 0, .int .i64 (-2)]) (t := 48) (by simp)
  obtain ⟨r0, r1, r2, r3, r4⟩ := KT2.out.l5 (B := R) (t := 48) (x0 := .int .u32 0) (x1 := .int .u8 0) (x2 := .int .i64 0) (x3 := .int .i64 0) (x4 := .int .i64 0) (by simp)
  obtain ⟨s0, s1, s2, s3, s4⟩ := KT2.out.f5 (B := R) (cs := [.int .u32 0, .int .u8 0, .int .i64 0, .int .i64 0, .int .i64 0]) (t := 48) (by simp)
  have KR := hid (((KT2.out.sub (l' := [(R, [.int .u32 0, .int .u8 0, .int .i64 0, .int .i64 0, .int .i64 0], 48)]) (by simp)).four5 (by have := HBD.out; omega) (by intro p hp; cases hp) (.int .u32 0) (.int .u8 0) (.int .i64 0) (.int .i64 0)).fifth (by have := HBD.out; omega) (by intro p hp; cases hp) (.int .i64 (-2)))
  go_wp2_with fail
  have hct := Ht.out
  have hcp := Hp.out
  subst hct
  subst hcp
  obtain ⟨y0, y1, y2, y3, y4⟩ := KR.out.l5 (B := R) (t := 48) (x0 := .int .u32 0) (x1 := .int .u8 0) (x2 := .int .i64 0) (x3 := .int .i64 0) (x4 := .int .i64 (-2)) (by simp)
  exact bodyPost_ret (v := .tuple #[.agg #[.int .u32 0, .int .u8 0, .int .i64 0, .int .i64 0, .int .i64 (-2)], .bool true]) (by simp [results, Try.results16, go_sem, y0, y1, y2, y3, y4]) rfl (Did.mk rfl KR.out.2)
set_option maxRecDepth 8000 in
set_option maxHeartbeats 2000000 in
theorem p_Spottn (x : Cl) (r : Cw) (s : Se) (hN : x.t.length ≤ maxLen) (hM : x.l.length ≤ maxLen) (hs : seatB x s = true) (ht : ¬ 0 ≤ s.t) (hp : ¬ 0 ≤ s.p) (hl : ¬ 0 < x.l.length) (w : World) (h : Clw w w.heap.size x r) : Calls Try.prog 16 #[cv x r, sv s] w (Did (.tuple #[spv (spW x s) (spR x s), .bool true]) w) := by
  have HS := hid (fun X => p_Seat x r s hN hM X)
  rw [hs] at HS
  obtain ⟨k1, k2, k3, k4⟩ := (seatB_iff x s).1 hs
  have Ht := hid (show spW x s = ⟨0, 0, 0, 0⟩ by unfold spW; rw [hs, decide_eq_false ht]; rfl)
  have Hp := hid (show spR x s = -1 by unfold spR; rw [hs, if_pos rfl, if_neg hp, if_neg hl])
  generalize spW x s = ct at *
  generalize spR x s = cp at *
  obtain ⟨st, sp⟩ := s
  obtain ⟨ra, rac, rb, rbc, rc, rcc⟩ := r
  simp only at ht hp k1 k2 k3 k4 Ht Hp
  obtain ⟨_, h1, h2⟩ := h
  simp only at h1 h2
  obtain rfl : st = -1 := by omega
  obtain rfl : sp = -1 := by omega
  clear h1 h2 hs hN hM
  obtain ⟨B, W, hB, hW, K, z0⟩ := (Mem.nil w).one (ccl x ⟨ra, rac, rb, rbc, rc, rcc⟩) 30
  obtain ⟨D, V, hD, hV, K1, z1⟩ := K.out.one (sc ⟨-1, -1⟩) 41
  obtain ⟨R, U, hR, hU, K2, z2⟩ := K1.out.one [.int .u32 0, .int .u8 0, .int .i64 0, .int .i64 0, .int .i64 0] 48
  have hBD : w.heap.size ≤ B ∧ B < D ∧ D < R := by
    have q1 := (K.out.at_ (b := B) (cs := ccl x ⟨ra, rac, rb, rbc, rc, rcc⟩) (t := 30) (by simp)).lt
    have q2 := (K1.out.at_ (b := D) (cs := sc ⟨-1, -1⟩) (t := 41) (by simp)).lt
    omega
  have HBD := hid hBD
  clear K K1 z0 z1 z2 hBD
  obtain ⟨e0, e1, e2, e3, e4, e5, e6⟩ := K2.out.cl (B := B) (x := x) (r := ⟨ra, rac, rb, rbc, rc, rcc⟩) (t := 30) (by simp)
  obtain ⟨d0, d1⟩ := K2.out.se (B := D) (s := ⟨-1, -1⟩) (t := 41) (by simp)
  simp only at e0 e1 e2 e3 e4 e5 e6 d0 d1
  go_enter Try.func16, Try.ntmps16
  go_wp2_with fail
  refine (HS.out _).mono ?_
  rintro e Y1 ⟨rfl, b1⟩
  have K3 := hid (K2.out.next b1)
  clear e0 e1 e2 e3 e4 e5 e6 d0 d1 b1 K2 HS
  obtain ⟨e0, e1, e2, e3, e4, e5, e6⟩ := K3.out.cl (B := B) (x := x) (r := ⟨ra, rac, rb, rbc, rc, rcc⟩) (t := 30) (by simp)
  obtain ⟨d0, d1⟩ := K3.out.se (B := D) (s := ⟨-1, -1⟩) (t := 41) (by simp)
  simp only at e0 e1 e2 e3 e4 e5 e6 d0 d1
  obtain ⟨T, U2, hT, hU2, K4, z3⟩ := K3.out.one [.int .u32 0, .int .u8 0, .int .i64 0, .int .i64 0, .int .i64 (-1)] 48
  have HT := hid (show R < T from by
    have q1 := (K3.out.at_ (b := R) (cs := [.int .u32 0, .int .u8 0, .int .i64 0, .int .i64 0, .int .i64 0]) (t := 48) (by simp)).lt
    omega)
  clear e0 e1 e2 e3 e4 e5 e6 d0 d1 K3 z3
  obtain ⟨e0, e1, e2, e3, e4, e5, e6⟩ := K4.out.cl (B := B) (x := x) (r := ⟨ra, rac, rb, rbc, rc, rcc⟩) (t := 30) (by simp)
  obtain ⟨d0, d1⟩ := K4.out.se (B := D) (s := ⟨-1, -1⟩) (t := 41) (by simp)
  simp only at e0 e1 e2 e3 e4 e5 e6 d0 d1
  obtain ⟨t0, t1, t2, t3, t4⟩ := K4.out.l5 (B := T) (t := 48) (x0 := .int .u32 0) (x1 := .int .u8 0) (x2 := .int .i64 0) (x3 := .int .i64 0) (x4 := .int .i64 (-1)) (by simp)
  obtain ⟨u0, u1, u2, u3, u4⟩ := K4.out.f5 (B := T) (cs := [.int .u32 0, .int .u8 0, .int .i64 0, .int .i64 0, .int .i64 (-1)]) (t := 48) (by simp)
  have KT0 := hid (K4.out.sub (l' := (T, [.int .u32 0, .int .u8 0, .int .i64 0, .int .i64 0, .int .i64 (-1)], 48) :: [(D, sc ⟨-1, -1⟩, 41), (B, ccl x ⟨ra, rac, rb, rbc, rc, rcc⟩, 30), (R, [.int .u32 0, .int .u8 0, .int .i64 0, .int .i64 0, .int .i64 0], 48)]) (by intro p hp; simp only [List.mem_cons, List.not_mem_nil, or_false] at hp ⊢; rcases hp with rfl | rfl | rfl | rfl <;> simp))
  have Hne := hid (show ∀ p ∈ ([(D, sc ⟨-1, -1⟩, 41), (B, ccl x ⟨ra, rac, rb, rbc, rc, rcc⟩, 30), (R, [.int .u32 0, .int .u8 0, .int .i64 0, .int .i64 0, .int .i64 0], 48)] : Obs), p.1 ≠ T from (by
    intro p hp
    have hq := HBD.out
    have hr := HT.out
    simp only [List.mem_cons, List.not_mem_nil, or_false] at hp
    rcases hp with rfl | rfl | rfl
    · show D ≠ T; omega
    · show B ≠ T; omega
    · show R ≠ T; omega))
  have hTw : w.heap.size ≤ T := by have := HBD.out; have := HT.out; omega
  obtain ⟨r0, r1, r2, r3, r4⟩ := KT0.out.l5 (B := R) (t := 48) (x0 := .int .u32 0) (x1 := .int .u8 0) (x2 := .int .i64 0) (x3 := .int .i64 0) (x4 := .int .i64 0) (by simp)
  obtain ⟨s0, s1, s2, s3, s4⟩ := KT0.out.f5 (B := R) (cs := [.int .u32 0, .int .u8 0, .int .i64 0, .int .i64 0, .int .i64 0]) (t := 48) (by simp)
  have KR := hid (((KT0.out.sub (l' := [(R, [.int .u32 0, .int .u8 0, .int .i64 0, .int .i64 0, .int .i64 0], 48)]) (by simp)).four5 (by have := HBD.out; omega) (by intro p hp; cases hp) (.int .u32 0) (.int .u8 0) (.int .i64 0) (.int .i64 0)).fifth (by have := HBD.out; omega) (by intro p hp; cases hp) (.int .i64 (-1)))
  go_wp2_with fail
  have hct := Ht.out
  have hcp := Hp.out
  subst hct
  subst hcp
  obtain ⟨y0, y1, y2, y3, y4⟩ := KR.out.l5 (B := R) (t := 48) (x0 := .int .u32 0) (x1 := .int .u8 0) (x2 := .int .i64 0) (x3 := .int .i64 0) (x4 := .int .i64 (-1)) (by simp)
  exact bodyPost_ret (v := .tuple #[.agg #[.int .u32 0, .int .u8 0, .int .i64 0, .int .i64 0, .int .i64 (-1)], .bool true]) (by simp [results, Try.results16, go_sem, y0, y1, y2, y3, y4]) rfl (Did.mk rfl KR.out.2)
set_option maxRecDepth 8000 in
set_option maxHeartbeats 2000000 in
theorem p_SpotTP (x : Cl) (r : Cw) (s : Se) (hN : x.t.length ≤ maxLen) (hM : x.l.length ≤ maxLen) (hs : seatB x s = true) (ht : 0 ≤ s.t) (hp : 0 ≤ s.p) (w : World) (h : Clw w w.heap.size x r) : Calls Try.prog 16 #[cv x r, sv s] w (Did (.tuple #[spv (spW x s) (spR x s), .bool true]) w) := by
  have HS := hid (fun X => p_Seat x r s hN hM X)
  rw [hs] at HS
  obtain ⟨k1, k2, k3, k4⟩ := (seatB_iff x s).1 hs
  have Ht := hid (show spW x s = (x.t.getD s.t.toNat ⟨⟨0, 0, 0, 0⟩, 0⟩).w by unfold spW; rw [hs, decide_eq_true ht]; rfl)
  have Hp := hid (show spR x s = (x.l.getD s.p.toNat ⟨0, 0⟩).r by unfold spR; rw [hs, if_pos rfl, if_pos hp])
  generalize spW x s = ct at *
  generalize spR x s = cp at *
  obtain ⟨st, sp⟩ := s
  obtain ⟨ra, rac, rb, rbc, rc, rcc⟩ := r
  simp only at ht hp k1 k2 k3 k4 Ht Hp
  obtain ⟨_, h1, h2⟩ := h
  simp only at h1 h2
  obtain ⟨ad, k, y, rfl, rfl, hy, _, hkl, a0, a1, a2, a3, a4⟩ := tm_cell h1 ht k2
  rw [hy.out] at Ht
  have bt := (World.block_lt_of_cell? _ _ a0)
  obtain ⟨ae, m, z, rfl, rfl, hz, _, hml, q0, q1⟩ := pl_cell h2 hp k4
  rw [hz.out] at Hp
  have bp := (World.block_lt_of_cell? _ _ q0)
  have n1 : (((k : Nat) : Int) != -1) = true := by rw [bne_iff_ne]; omega
  have n2 : (((m : Nat) : Int) != -1) = true := by rw [bne_iff_ne]; omega
  clear h1 h2 hs hN hM
  obtain ⟨B, W, hB, hW, K, z0⟩ := (Mem.nil w).one (ccl x ⟨ra, rac, some ad, rbc, some ae, rcc⟩) 30
  obtain ⟨D, V, hD, hV, K1, z1⟩ := K.out.one (sc ⟨((k : Nat) : Int), ((m : Nat) : Int)⟩) 41
  obtain ⟨R, U, hR, hU, K2, z2⟩ := K1.out.one [.int .u32 0, .int .u8 0, .int .i64 0, .int .i64 0, .int .i64 0] 48
  have hBD : w.heap.size ≤ B ∧ B < D ∧ D < R := by
    have q1 := (K.out.at_ (b := B) (cs := ccl x ⟨ra, rac, some ad, rbc, some ae, rcc⟩) (t := 30) (by simp)).lt
    have q2 := (K1.out.at_ (b := D) (cs := sc ⟨((k : Nat) : Int), ((m : Nat) : Int)⟩) (t := 41) (by simp)).lt
    omega
  have HBD := hid hBD
  clear K K1 z0 z1 z2 hBD
  obtain ⟨e0, e1, e2, e3, e4, e5, e6⟩ := K2.out.cl (B := B) (x := x) (r := ⟨ra, rac, some ad, rbc, some ae, rcc⟩) (t := 30) (by simp)
  obtain ⟨d0, d1⟩ := K2.out.se (B := D) (s := ⟨((k : Nat) : Int), ((m : Nat) : Int)⟩) (t := 41) (by simp)
  simp only at e0 e1 e2 e3 e4 e5 e6 d0 d1
  go_enter Try.func16, Try.ntmps16
  go_wp2_with fail
  refine (HS.out _).mono ?_
  rintro e Y1 ⟨rfl, b1⟩
  have K3 := hid (K2.out.next b1)
  clear e0 e1 e2 e3 e4 e5 e6 d0 d1 b1 K2 HS
  obtain ⟨e0, e1, e2, e3, e4, e5, e6⟩ := K3.out.cl (B := B) (x := x) (r := ⟨ra, rac, some ad, rbc, some ae, rcc⟩) (t := 30) (by simp)
  obtain ⟨d0, d1⟩ := K3.out.se (B := D) (s := ⟨((k : Nat) : Int), ((m : Nat) : Int)⟩) (t := 41) (by simp)
  simp only at e0 e1 e2 e3 e4 e5 e6 d0 d1
  obtain ⟨T, U2, hT, hU2, K4, z3⟩ := K3.out.one [.int .u32 0, .int .u8 0, .int .i64 0, .int .i64 0, .int .i64 (-1)] 48
  have HT := hid (show R < T from by
    have q1 := (K3.out.at_ (b := R) (cs := [.int .u32 0, .int .u8 0, .int .i64 0, .int .i64 0, .int .i64 0]) (t := 48) (by simp)).lt
    omega)
  clear e0 e1 e2 e3 e4 e5 e6 d0 d1 K3 z3
  obtain ⟨e0, e1, e2, e3, e4, e5, e6⟩ := K4.out.cl (B := B) (x := x) (r := ⟨ra, rac, some ad, rbc, some ae, rcc⟩) (t := 30) (by simp)
  obtain ⟨d0, d1⟩ := K4.out.se (B := D) (s := ⟨((k : Nat) : Int), ((m : Nat) : Int)⟩) (t := 41) (by simp)
  simp only at e0 e1 e2 e3 e4 e5 e6 d0 d1
  have f0 := (K4.out.2.cell (p := ad.add (k * 5)) bt).trans a0
  have f1 := (K4.out.2.cell (p := ⟨(ad.add (k * 5)).block, (ad.add (k * 5)).off + 1, none⟩) bt).trans a1
  have f2 := (K4.out.2.cell (p := ⟨(ad.add (k * 5)).block, (ad.add (k * 5)).off + 2, none⟩) bt).trans a2
  have f3 := (K4.out.2.cell (p := ⟨(ad.add (k * 5)).block, (ad.add (k * 5)).off + 3, none⟩) bt).trans a3
  have g0 := (K4.out.2.cell (p := ae.add (m * 2)) bp).trans q0
  obtain ⟨t0, t1, t2, t3, t4⟩ := K4.out.l5 (B := T) (t := 48) (x0 := .int .u32 0) (x1 := .int .u8 0) (x2 := .int .i64 0) (x3 := .int .i64 0) (x4 := .int .i64 (-1)) (by simp)
  obtain ⟨u0, u1, u2, u3, u4⟩ := K4.out.f5 (B := T) (cs := [.int .u32 0, .int .u8 0, .int .i64 0, .int .i64 0, .int .i64 (-1)]) (t := 48) (by simp)
  have KT0 := hid (K4.out.sub (l' := (T, [.int .u32 0, .int .u8 0, .int .i64 0, .int .i64 0, .int .i64 (-1)], 48) :: [(D, sc ⟨((k : Nat) : Int), ((m : Nat) : Int)⟩, 41), (B, ccl x ⟨ra, rac, some ad, rbc, some ae, rcc⟩, 30), (R, [.int .u32 0, .int .u8 0, .int .i64 0, .int .i64 0, .int .i64 0], 48)]) (by intro p hp; simp only [List.mem_cons, List.not_mem_nil, or_false] at hp ⊢; rcases hp with rfl | rfl | rfl | rfl <;> simp))
  have Hne := hid (show ∀ p ∈ ([(D, sc ⟨((k : Nat) : Int), ((m : Nat) : Int)⟩, 41), (B, ccl x ⟨ra, rac, some ad, rbc, some ae, rcc⟩, 30), (R, [.int .u32 0, .int .u8 0, .int .i64 0, .int .i64 0, .int .i64 0], 48)] : Obs), p.1 ≠ T from (by
    intro p hp
    have hq := HBD.out
    have hr := HT.out
    simp only [List.mem_cons, List.not_mem_nil, or_false] at hp
    rcases hp with rfl | rfl | rfl
    · show D ≠ T; omega
    · show B ≠ T; omega
    · show R ≠ T; omega))
  have hTw : w.heap.size ≤ T := by have := HBD.out; have := HT.out; omega
  go_upto_region 6 with fail
  obtain ⟨Z1, hZ1⟩ : ∃ Z, ((((U2.setCell ⟨T, 0, none⟩ (.int .u32 (y.w.w : Int))).setCell ⟨T, 1, none⟩ (.int .u8 (y.w.d : Int))).setCell ⟨T, 2, none⟩ (.int .i64 y.w.s)).setCell ⟨T, 3, none⟩ (.int .i64 y.w.l)) = Z := ⟨_, rfl⟩
  have KT1 := hid (KT0.out.four5 hTw Hne.out (.int .u32 (y.w.w : Int)) (.int .u8 (y.w.d : Int)) (.int .i64 y.w.s) (.int .i64 y.w.l))
  rw [hZ1] at KT1
  rw [hZ1]
  clear e0 e1 e2 e3 e4 e5 e6 d0 d1 t0 t1 t2 t3 t4 u0 u1 u2 u3 u4 f0 f1 f2 f3 g0 hZ1 K4 KT0
  obtain ⟨e0, e1, e2, e3, e4, e5, e6⟩ := KT1.out.cl (B := B) (x := x) (r := ⟨ra, rac, some ad, rbc, some ae, rcc⟩) (t := 30) (by simp)
  obtain ⟨d0, d1⟩ := KT1.out.se (B := D) (s := ⟨((k : Nat) : Int), ((m : Nat) : Int)⟩) (t := 41) (by simp)
  simp only at e0 e1 e2 e3 e4 e5 e6 d0 d1
  obtain ⟨t0, t1, t2, t3, t4⟩ := KT1.out.l5 (B := T) (t := 48) (x0 := .int .u32 (y.w.w : Int)) (x1 := .int .u8 (y.w.d : Int)) (x2 := .int .i64 y.w.s) (x3 := .int .i64 y.w.l) (x4 := .int .i64 (-1)) (by simp)
  obtain ⟨u0, u1, u2, u3, u4⟩ := KT1.out.f5 (B := T) (cs := [.int .u32 (y.w.w : Int), .int .u8 (y.w.d : Int), .int .i64 y.w.s, .int .i64 y.w.l, .int .i64 (-1)]) (t := 48) (by simp)
  have g0 := (KT1.out.2.cell (p := ae.add (m * 2)) bp).trans q0
  go_upto_region 10 with fail
  obtain ⟨Z2, hZ2⟩ : ∃ Z, Z1.setCell ⟨T, 4, none⟩ (.int .i64 z.r) = Z := ⟨_, rfl⟩
  have KT2 := hid (KT1.out.fifth hTw Hne.out (.int .i64 z.r))
  rw [hZ2] at KT2
  rw [hZ2]
  clear e0 e1 e2 e3 e4 e5 e6 d0 d1 t0 t1 t2 t3 t4 u0 u1 u2 u3 u4 g0 KT1 hZ2
  obtain ⟨e0, e1, e2, e3, e4, e5, e6⟩ := KT2.out.cl (B := B) (x := x) (r := ⟨ra, rac, some ad, rbc, some ae, rcc⟩) (t := 30) (by simp)
  obtain ⟨d0, d1⟩ := KT2.out.se (B := D) (s := ⟨((k : Nat) : Int), ((m : Nat) : Int)⟩) (t := 41) (by simp)
  simp only at e0 e1 e2 e3 e4 e5 e6 d0 d1
  obtain ⟨t0, t1, t2, t3, t4⟩ := KT2.out.l5 (B := T) (t := 48) (x0 := .int .u32 (y.w.w : Int)) (x1 := .int .u8 (y.w.d : Int)) (x2 := .int .i64 y.w.s) (x3 := .int .i64 y.w.l) (x4 := .int .i64 z.r) (by simp)
  obtain ⟨u0, u1, u2, u3, u4⟩ := KT2.out.f5 (B := T) (cs := [.int .u32 (y.w.w : Int), .int .u8 (y.w.d : Int), .int .i64 y.w.s, .int .i64 y.w.l, .int .i64 z.r]) (t := 48) (by simp)
  obtain ⟨r0, r1, r2, r3, r4⟩ := KT2.out.l5 (B := R) (t := 48) (x0 := .int .u32 0) (x1 := .int .u8 0) (x2 := .int .i64 0) (x3 := .int .i64 0) (x4 := .int .i64 0) (by simp)
  obtain ⟨s0, s1, s2, s3, s4⟩ := KT2.out.f5 (B := R) (cs := [.int .u32 0, .int .u8 0, .int .i64 0, .int .i64 0, .int .i64 0]) (t := 48) (by simp)
  have KR := hid (((KT2.out.sub (l' := [(R, [.int .u32 0, .int .u8 0, .int .i64 0, .int .i64 0, .int .i64 0], 48)]) (by simp)).four5 (by have := HBD.out; omega) (by intro p hp; cases hp) (.int .u32 (y.w.w : Int)) (.int .u8 (y.w.d : Int)) (.int .i64 y.w.s) (.int .i64 y.w.l)).fifth (by have := HBD.out; omega) (by intro p hp; cases hp) (.int .i64 z.r))
  go_wp2_with fail
  have hct := Ht.out
  have hcp := Hp.out
  subst hct
  subst hcp
  obtain ⟨y0, y1, y2, y3, y4⟩ := KR.out.l5 (B := R) (t := 48) (x0 := .int .u32 (y.w.w : Int)) (x1 := .int .u8 (y.w.d : Int)) (x2 := .int .i64 y.w.s) (x3 := .int .i64 y.w.l) (x4 := .int .i64 z.r) (by simp)
  exact bodyPost_ret (v := .tuple #[.agg #[.int .u32 (y.w.w : Int), .int .u8 (y.w.d : Int), .int .i64 y.w.s, .int .i64 y.w.l, .int .i64 z.r], .bool true]) (by simp [results, Try.results16, go_sem, y0, y1, y2, y3, y4]) rfl (Did.mk rfl KR.out.2)
set_option maxRecDepth 8000 in
set_option maxHeartbeats 2000000 in
theorem p_SpotTm (x : Cl) (r : Cw) (s : Se) (hN : x.t.length ≤ maxLen) (hM : x.l.length ≤ maxLen) (hs : seatB x s = true) (ht : 0 ≤ s.t) (hp : ¬ 0 ≤ s.p) (hl : 0 < x.l.length) (w : World) (h : Clw w w.heap.size x r) : Calls Try.prog 16 #[cv x r, sv s] w (Did (.tuple #[spv (spW x s) (spR x s), .bool true]) w) := by
  have HS := hid (fun X => p_Seat x r s hN hM X)
  rw [hs] at HS
  obtain ⟨k1, k2, k3, k4⟩ := (seatB_iff x s).1 hs
  have Ht := hid (show spW x s = (x.t.getD s.t.toNat ⟨⟨0, 0, 0, 0⟩, 0⟩).w by unfold spW; rw [hs, decide_eq_true ht]; rfl)
  have Hp := hid (show spR x s = -2 by unfold spR; rw [hs, if_pos rfl, if_neg hp, if_pos hl])
  generalize spW x s = ct at *
  generalize spR x s = cp at *
  obtain ⟨st, sp⟩ := s
  obtain ⟨ra, rac, rb, rbc, rc, rcc⟩ := r
  simp only at ht hp k1 k2 k3 k4 Ht Hp
  obtain ⟨_, h1, h2⟩ := h
  simp only at h1 h2
  obtain ⟨ad, k, y, rfl, rfl, hy, _, hkl, a0, a1, a2, a3, a4⟩ := tm_cell h1 ht k2
  rw [hy.out] at Ht
  have bt := (World.block_lt_of_cell? _ _ a0)
  have n1 : (((k : Nat) : Int) != -1) = true := by rw [bne_iff_ne]; omega
  obtain rfl : sp = -1 := by omega
  clear h1 h2 hs hN hM
  obtain ⟨B, W, hB, hW, K, z0⟩ := (Mem.nil w).one (ccl x ⟨ra, rac, some ad, rbc, rc, rcc⟩) 30
  obtain ⟨D, V, hD, hV, K1, z1⟩ := K.out.one (sc ⟨((k : Nat) : Int), -1⟩) 41
  obtain ⟨R, U, hR, hU, K2, z2⟩ := K1.out.one [.int .u32 0, .int .u8 0, .int .i64 0, .int .i64 0, .int .i64 0] 48
  have hBD : w.heap.size ≤ B ∧ B < D ∧ D < R := by
    have q1 := (K.out.at_ (b := B) (cs := ccl x ⟨ra, rac, some ad, rbc, rc, rcc⟩) (t := 30) (by simp)).lt
    have q2 := (K1.out.at_ (b := D) (cs := sc ⟨((k : Nat) : Int), -1⟩) (t := 41) (by simp)).lt
    omega
  have HBD := hid hBD
  clear K K1 z0 z1 z2 hBD
  obtain ⟨e0, e1, e2, e3, e4, e5, e6⟩ := K2.out.cl (B := B) (x := x) (r := ⟨ra, rac, some ad, rbc, rc, rcc⟩) (t := 30) (by simp)
  obtain ⟨d0, d1⟩ := K2.out.se (B := D) (s := ⟨((k : Nat) : Int), -1⟩) (t := 41) (by simp)
  simp only at e0 e1 e2 e3 e4 e5 e6 d0 d1
  go_enter Try.func16, Try.ntmps16
  go_wp2_with fail
  refine (HS.out _).mono ?_
  rintro e Y1 ⟨rfl, b1⟩
  have K3 := hid (K2.out.next b1)
  clear e0 e1 e2 e3 e4 e5 e6 d0 d1 b1 K2 HS
  obtain ⟨e0, e1, e2, e3, e4, e5, e6⟩ := K3.out.cl (B := B) (x := x) (r := ⟨ra, rac, some ad, rbc, rc, rcc⟩) (t := 30) (by simp)
  obtain ⟨d0, d1⟩ := K3.out.se (B := D) (s := ⟨((k : Nat) : Int), -1⟩) (t := 41) (by simp)
  simp only at e0 e1 e2 e3 e4 e5 e6 d0 d1
  obtain ⟨T, U2, hT, hU2, K4, z3⟩ := K3.out.one [.int .u32 0, .int .u8 0, .int .i64 0, .int .i64 0, .int .i64 (-1)] 48
  have HT := hid (show R < T from by
    have q1 := (K3.out.at_ (b := R) (cs := [.int .u32 0, .int .u8 0, .int .i64 0, .int .i64 0, .int .i64 0]) (t := 48) (by simp)).lt
    omega)
  clear e0 e1 e2 e3 e4 e5 e6 d0 d1 K3 z3
  obtain ⟨e0, e1, e2, e3, e4, e5, e6⟩ := K4.out.cl (B := B) (x := x) (r := ⟨ra, rac, some ad, rbc, rc, rcc⟩) (t := 30) (by simp)
  obtain ⟨d0, d1⟩ := K4.out.se (B := D) (s := ⟨((k : Nat) : Int), -1⟩) (t := 41) (by simp)
  simp only at e0 e1 e2 e3 e4 e5 e6 d0 d1
  have f0 := (K4.out.2.cell (p := ad.add (k * 5)) bt).trans a0
  have f1 := (K4.out.2.cell (p := ⟨(ad.add (k * 5)).block, (ad.add (k * 5)).off + 1, none⟩) bt).trans a1
  have f2 := (K4.out.2.cell (p := ⟨(ad.add (k * 5)).block, (ad.add (k * 5)).off + 2, none⟩) bt).trans a2
  have f3 := (K4.out.2.cell (p := ⟨(ad.add (k * 5)).block, (ad.add (k * 5)).off + 3, none⟩) bt).trans a3
  obtain ⟨t0, t1, t2, t3, t4⟩ := K4.out.l5 (B := T) (t := 48) (x0 := .int .u32 0) (x1 := .int .u8 0) (x2 := .int .i64 0) (x3 := .int .i64 0) (x4 := .int .i64 (-1)) (by simp)
  obtain ⟨u0, u1, u2, u3, u4⟩ := K4.out.f5 (B := T) (cs := [.int .u32 0, .int .u8 0, .int .i64 0, .int .i64 0, .int .i64 (-1)]) (t := 48) (by simp)
  have KT0 := hid (K4.out.sub (l' := (T, [.int .u32 0, .int .u8 0, .int .i64 0, .int .i64 0, .int .i64 (-1)], 48) :: [(D, sc ⟨((k : Nat) : Int), -1⟩, 41), (B, ccl x ⟨ra, rac, some ad, rbc, rc, rcc⟩, 30), (R, [.int .u32 0, .int .u8 0, .int .i64 0, .int .i64 0, .int .i64 0], 48)]) (by intro p hp; simp only [List.mem_cons, List.not_mem_nil, or_false] at hp ⊢; rcases hp with rfl | rfl | rfl | rfl <;> simp))
  have Hne := hid (show ∀ p ∈ ([(D, sc ⟨((k : Nat) : Int), -1⟩, 41), (B, ccl x ⟨ra, rac, some ad, rbc, rc, rcc⟩, 30), (R, [.int .u32 0, .int .u8 0, .int .i64 0, .int .i64 0, .int .i64 0], 48)] : Obs), p.1 ≠ T from (by
    intro p hp
    have hq := HBD.out
    have hr := HT.out
    simp only [List.mem_cons, List.not_mem_nil, or_false] at hp
    rcases hp with rfl | rfl | rfl
    · show D ≠ T; omega
    · show B ≠ T; omega
    · show R ≠ T; omega))
  have hTw : w.heap.size ≤ T := by have := HBD.out; have := HT.out; omega
  go_upto_region 6 with fail
  obtain ⟨Z1, hZ1⟩ : ∃ Z, ((((U2.setCell ⟨T, 0, none⟩ (.int .u32 (y.w.w : Int))).setCell ⟨T, 1, none⟩ (.int .u8 (y.w.d : Int))).setCell ⟨T, 2, none⟩ (.int .i64 y.w.s)).setCell ⟨T, 3, none⟩ (.int .i64 y.w.l)) = Z := ⟨_, rfl⟩
  have KT1 := hid (KT0.out.four5 hTw Hne.out (.int .u32 (y.w.w : Int)) (.int .u8 (y.w.d : Int)) (.int .i64 y.w.s) (.int .i64 y.w.l))
  rw [hZ1] at KT1
  rw [hZ1]
  clear e0 e1 e2 e3 e4 e5 e6 d0 d1 t0 t1 t2 t3 t4 u0 u1 u2 u3 u4 f0 f1 f2 f3 hZ1 K4 KT0
  obtain ⟨e0, e1, e2, e3, e4, e5, e6⟩ := KT1.out.cl (B := B) (x := x) (r := ⟨ra, rac, some ad, rbc, rc, rcc⟩) (t := 30) (by simp)
  obtain ⟨d0, d1⟩ := KT1.out.se (B := D) (s := ⟨((k : Nat) : Int), -1⟩) (t := 41) (by simp)
  simp only at e0 e1 e2 e3 e4 e5 e6 d0 d1
  obtain ⟨t0, t1, t2, t3, t4⟩ := KT1.out.l5 (B := T) (t := 48) (x0 := .int .u32 (y.w.w : Int)) (x1 := .int .u8 (y.w.d : Int)) (x2 := .int .i64 y.w.s) (x3 := .int .i64 y.w.l) (x4 := .int .i64 (-1)) (by simp)
  obtain ⟨u0, u1, u2, u3, u4⟩ := KT1.out.f5 (B := T) (cs := [.int .u32 (y.w.w : Int), .int .u8 (y.w.d : Int), .int .i64 y.w.s, .int .i64 y.w.l, .int .i64 (-1)]) (t := 48) (by simp)
  go_upto_region 10 with fail
  obtain ⟨Z2, hZ2⟩ : ∃ Z, Z1.setCell ⟨T, 4, none⟩ (.int .i64 (-2)) = Z := ⟨_, rfl⟩
  have KT2 := hid (KT1.out.fifth hTw Hne.out (.int .i64 (-2)))
  rw [hZ2] at KT2
  rw [hZ2]
  clear e0 e1 e2 e3 e4 e5 e6 d0 d1 t0 t1 t2 t3 t4 u0 u1 u2 u3 u4 KT1 hZ2
  obtain ⟨e0, e1, e2, e3, e4, e5, e6⟩ := KT2.out.cl (B := B) (x := x) (r := ⟨ra, rac, some ad, rbc, rc, rcc⟩) (t := 30) (by simp)
  obtain ⟨d0, d1⟩ := KT2.out.se (B := D) (s := ⟨((k : Nat) : Int), -1⟩) (t := 41) (by simp)
  simp only at e0 e1 e2 e3 e4 e5 e6 d0 d1
  obtain ⟨t0, t1, t2, t3, t4⟩ := KT2.out.l5 (B := T) (t := 48) (x0 := .int .u32 (y.w.w : Int)) (x1 := .int .u8 (y.w.d : Int)) (x2 := .int .i64 y.w.s) (x3 := .int .i64 y.w.l) (x4 := .int .i64 (-2)) (by simp)
  obtain ⟨u0, u1, u2, u3, u4⟩ := KT2.out.f5 (B := T) (cs := [.int .u32 (y.w.w : Int), .int .u8 (y.w.d : Int), .int .i64 y.w.s, .int .i64 y.w.l, .int .i64 (-2)]) (t := 48) (by simp)
  obtain ⟨r0, r1, r2, r3, r4⟩ := KT2.out.l5 (B := R) (t := 48) (x0 := .int .u32 0) (x1 := .int .u8 0) (x2 := .int .i64 0) (x3 := .int .i64 0) (x4 := .int .i64 0) (by simp)
  obtain ⟨s0, s1, s2, s3, s4⟩ := KT2.out.f5 (B := R) (cs := [.int .u32 0, .int .u8 0, .int .i64 0, .int .i64 0, .int .i64 0]) (t := 48) (by simp)
  have KR := hid (((KT2.out.sub (l' := [(R, [.int .u32 0, .int .u8 0, .int .i64 0, .int .i64 0, .int .i64 0], 48)]) (by simp)).four5 (by have := HBD.out; omega) (by intro p hp; cases hp) (.int .u32 (y.w.w : Int)) (.int .u8 (y.w.d : Int)) (.int .i64 y.w.s) (.int .i64 y.w.l)).fifth (by have := HBD.out; omega) (by intro p hp; cases hp) (.int .i64 (-2)))
  go_wp2_with fail
  have hct := Ht.out
  have hcp := Hp.out
  subst hct
  subst hcp
  obtain ⟨y0, y1, y2, y3, y4⟩ := KR.out.l5 (B := R) (t := 48) (x0 := .int .u32 (y.w.w : Int)) (x1 := .int .u8 (y.w.d : Int)) (x2 := .int .i64 y.w.s) (x3 := .int .i64 y.w.l) (x4 := .int .i64 (-2)) (by simp)
  exact bodyPost_ret (v := .tuple #[.agg #[.int .u32 (y.w.w : Int), .int .u8 (y.w.d : Int), .int .i64 y.w.s, .int .i64 y.w.l, .int .i64 (-2)], .bool true]) (by simp [results, Try.results16, go_sem, y0, y1, y2, y3, y4]) rfl (Did.mk rfl KR.out.2)
set_option maxRecDepth 8000 in
set_option maxHeartbeats 2000000 in
theorem p_SpotTn (x : Cl) (r : Cw) (s : Se) (hN : x.t.length ≤ maxLen) (hM : x.l.length ≤ maxLen) (hs : seatB x s = true) (ht : 0 ≤ s.t) (hp : ¬ 0 ≤ s.p) (hl : ¬ 0 < x.l.length) (w : World) (h : Clw w w.heap.size x r) : Calls Try.prog 16 #[cv x r, sv s] w (Did (.tuple #[spv (spW x s) (spR x s), .bool true]) w) := by
  have HS := hid (fun X => p_Seat x r s hN hM X)
  rw [hs] at HS
  obtain ⟨k1, k2, k3, k4⟩ := (seatB_iff x s).1 hs
  have Ht := hid (show spW x s = (x.t.getD s.t.toNat ⟨⟨0, 0, 0, 0⟩, 0⟩).w by unfold spW; rw [hs, decide_eq_true ht]; rfl)
  have Hp := hid (show spR x s = -1 by unfold spR; rw [hs, if_pos rfl, if_neg hp, if_neg hl])
  generalize spW x s = ct at *
  generalize spR x s = cp at *
  obtain ⟨st, sp⟩ := s
  obtain ⟨ra, rac, rb, rbc, rc, rcc⟩ := r
  simp only at ht hp k1 k2 k3 k4 Ht Hp
  obtain ⟨_, h1, h2⟩ := h
  simp only at h1 h2
  obtain ⟨ad, k, y, rfl, rfl, hy, _, hkl, a0, a1, a2, a3, a4⟩ := tm_cell h1 ht k2
  rw [hy.out] at Ht
  have bt := (World.block_lt_of_cell? _ _ a0)
  have n1 : (((k : Nat) : Int) != -1) = true := by rw [bne_iff_ne]; omega
  obtain rfl : sp = -1 := by omega
  clear h1 h2 hs hN hM
  obtain ⟨B, W, hB, hW, K, z0⟩ := (Mem.nil w).one (ccl x ⟨ra, rac, some ad, rbc, rc, rcc⟩) 30
  obtain ⟨D, V, hD, hV, K1, z1⟩ := K.out.one (sc ⟨((k : Nat) : Int), -1⟩) 41
  obtain ⟨R, U, hR, hU, K2, z2⟩ := K1.out.one [.int .u32 0, .int .u8 0, .int .i64 0, .int .i64 0, .int .i64 0] 48
  have hBD : w.heap.size ≤ B ∧ B < D ∧ D < R := by
    have q1 := (K.out.at_ (b := B) (cs := ccl x ⟨ra, rac, some ad, rbc, rc, rcc⟩) (t := 30) (by simp)).lt
    have q2 := (K1.out.at_ (b := D) (cs := sc ⟨((k : Nat) : Int), -1⟩) (t := 41) (by simp)).lt
    omega
  have HBD := hid hBD
  clear K K1 z0 z1 z2 hBD
  obtain ⟨e0, e1, e2, e3, e4, e5, e6⟩ := K2.out.cl (B := B) (x := x) (r := ⟨ra, rac, some ad, rbc, rc, rcc⟩) (t := 30) (by simp)
  obtain ⟨d0, d1⟩ := K2.out.se (B := D) (s := ⟨((k : Nat) : Int), -1⟩) (t := 41) (by simp)
  simp only at e0 e1 e2 e3 e4 e5 e6 d0 d1
  go_enter Try.func16, Try.ntmps16
  go_wp2_with fail
  refine (HS.out _).mono ?_
  rintro e Y1 ⟨rfl, b1⟩
  have K3 := hid (K2.out.next b1)
  clear e0 e1 e2 e3 e4 e5 e6 d0 d1 b1 K2 HS
  obtain ⟨e0, e1, e2, e3, e4, e5, e6⟩ := K3.out.cl (B := B) (x := x) (r := ⟨ra, rac, some ad, rbc, rc, rcc⟩) (t := 30) (by simp)
  obtain ⟨d0, d1⟩ := K3.out.se (B := D) (s := ⟨((k : Nat) : Int), -1⟩) (t := 41) (by simp)
  simp only at e0 e1 e2 e3 e4 e5 e6 d0 d1
  obtain ⟨T, U2, hT, hU2, K4, z3⟩ := K3.out.one [.int .u32 0, .int .u8 0, .int .i64 0, .int .i64 0, .int .i64 (-1)] 48
  have HT := hid (show R < T from by
    have q1 := (K3.out.at_ (b := R) (cs := [.int .u32 0, .int .u8 0, .int .i64 0, .int .i64 0, .int .i64 0]) (t := 48) (by simp)).lt
    omega)
  clear e0 e1 e2 e3 e4 e5 e6 d0 d1 K3 z3
  obtain ⟨e0, e1, e2, e3, e4, e5, e6⟩ := K4.out.cl (B := B) (x := x) (r := ⟨ra, rac, some ad, rbc, rc, rcc⟩) (t := 30) (by simp)
  obtain ⟨d0, d1⟩ := K4.out.se (B := D) (s := ⟨((k : Nat) : Int), -1⟩) (t := 41) (by simp)
  simp only at e0 e1 e2 e3 e4 e5 e6 d0 d1
  have f0 := (K4.out.2.cell (p := ad.add (k * 5)) bt).trans a0
  have f1 := (K4.out.2.cell (p := ⟨(ad.add (k * 5)).block, (ad.add (k * 5)).off + 1, none⟩) bt).trans a1
  have f2 := (K4.out.2.cell (p := ⟨(ad.add (k * 5)).block, (ad.add (k * 5)).off + 2, none⟩) bt).trans a2
  have f3 := (K4.out.2.cell (p := ⟨(ad.add (k * 5)).block, (ad.add (k * 5)).off + 3, none⟩) bt).trans a3
  obtain ⟨t0, t1, t2, t3, t4⟩ := K4.out.l5 (B := T) (t := 48) (x0 := .int .u32 0) (x1 := .int .u8 0) (x2 := .int .i64 0) (x3 := .int .i64 0) (x4 := .int .i64 (-1)) (by simp)
  obtain ⟨u0, u1, u2, u3, u4⟩ := K4.out.f5 (B := T) (cs := [.int .u32 0, .int .u8 0, .int .i64 0, .int .i64 0, .int .i64 (-1)]) (t := 48) (by simp)
  have KT0 := hid (K4.out.sub (l' := (T, [.int .u32 0, .int .u8 0, .int .i64 0, .int .i64 0, .int .i64 (-1)], 48) :: [(D, sc ⟨((k : Nat) : Int), -1⟩, 41), (B, ccl x ⟨ra, rac, some ad, rbc, rc, rcc⟩, 30), (R, [.int .u32 0, .int .u8 0, .int .i64 0, .int .i64 0, .int .i64 0], 48)]) (by intro p hp; simp only [List.mem_cons, List.not_mem_nil, or_false] at hp ⊢; rcases hp with rfl | rfl | rfl | rfl <;> simp))
  have Hne := hid (show ∀ p ∈ ([(D, sc ⟨((k : Nat) : Int), -1⟩, 41), (B, ccl x ⟨ra, rac, some ad, rbc, rc, rcc⟩, 30), (R, [.int .u32 0, .int .u8 0, .int .i64 0, .int .i64 0, .int .i64 0], 48)] : Obs), p.1 ≠ T from (by
    intro p hp
    have hq := HBD.out
    have hr := HT.out
    simp only [List.mem_cons, List.not_mem_nil, or_false] at hp
    rcases hp with rfl | rfl | rfl
    · show D ≠ T; omega
    · show B ≠ T; omega
    · show R ≠ T; omega))
  have hTw : w.heap.size ≤ T := by have := HBD.out; have := HT.out; omega
  go_upto_region 6 with fail
  obtain ⟨Z1, hZ1⟩ : ∃ Z, ((((U2.setCell ⟨T, 0, none⟩ (.int .u32 (y.w.w : Int))).setCell ⟨T, 1, none⟩ (.int .u8 (y.w.d : Int))).setCell ⟨T, 2, none⟩ (.int .i64 y.w.s)).setCell ⟨T, 3, none⟩ (.int .i64 y.w.l)) = Z := ⟨_, rfl⟩
  have KT1 := hid (KT0.out.four5 hTw Hne.out (.int .u32 (y.w.w : Int)) (.int .u8 (y.w.d : Int)) (.int .i64 y.w.s) (.int .i64 y.w.l))
  rw [hZ1] at KT1
  rw [hZ1]
  clear e0 e1 e2 e3 e4 e5 e6 d0 d1 t0 t1 t2 t3 t4 u0 u1 u2 u3 u4 f0 f1 f2 f3 hZ1 K4 KT0
  obtain ⟨e0, e1, e2, e3, e4, e5, e6⟩ := KT1.out.cl (B := B) (x := x) (r := ⟨ra, rac, some ad, rbc, rc, rcc⟩) (t := 30) (by simp)
  obtain ⟨d0, d1⟩ := KT1.out.se (B := D) (s := ⟨((k : Nat) : Int), -1⟩) (t := 41) (by simp)
  simp only at e0 e1 e2 e3 e4 e5 e6 d0 d1
  obtain ⟨t0, t1, t2, t3, t4⟩ := KT1.out.l5 (B := T) (t := 48) (x0 := .int .u32 (y.w.w : Int)) (x1 := .int .u8 (y.w.d : Int)) (x2 := .int .i64 y.w.s) (x3 := .int .i64 y.w.l) (x4 := .int .i64 (-1)) (by simp)
  obtain ⟨u0, u1, u2, u3, u4⟩ := KT1.out.f5 (B := T) (cs := [.int .u32 (y.w.w : Int), .int .u8 (y.w.d : Int), .int .i64 y.w.s, .int .i64 y.w.l, .int .i64 (-1)]) (t := 48) (by simp)
  obtain ⟨r0, r1, r2, r3, r4⟩ := KT1.out.l5 (B := R) (t := 48) (x0 := .int .u32 0) (x1 := .int .u8 0) (x2 := .int .i64 0) (x3 := .int .i64 0) (x4 := .int .i64 0) (by simp)
  obtain ⟨s0, s1, s2, s3, s4⟩ := KT1.out.f5 (B := R) (cs := [.int .u32 0, .int .u8 0, .int .i64 0, .int .i64 0, .int .i64 0]) (t := 48) (by simp)
  have KR := hid (((KT1.out.sub (l' := [(R, [.int .u32 0, .int .u8 0, .int .i64 0, .int .i64 0, .int .i64 0], 48)]) (by simp)).four5 (by have := HBD.out; omega) (by intro p hp; cases hp) (.int .u32 (y.w.w : Int)) (.int .u8 (y.w.d : Int)) (.int .i64 y.w.s) (.int .i64 y.w.l)).fifth (by have := HBD.out; omega) (by intro p hp; cases hp) (.int .i64 (-1)))
  go_wp2_with fail
  have hct := Ht.out
  have hcp := Hp.out
  subst hct
  subst hcp
  obtain ⟨y0, y1, y2, y3, y4⟩ := KR.out.l5 (B := R) (t := 48) (x0 := .int .u32 (y.w.w : Int)) (x1 := .int .u8 (y.w.d : Int)) (x2 := .int .i64 y.w.s) (x3 := .int .i64 y.w.l) (x4 := .int .i64 (-1)) (by simp)
  exact bodyPost_ret (v := .tuple #[.agg #[.int .u32 (y.w.w : Int), .int .u8 (y.w.d : Int), .int .i64 y.w.s, .int .i64 y.w.l, .int .i64 (-1)], .bool true]) (by simp [results, Try.results16, go_sem, y0, y1, y2, y3, y4]) rfl (Did.mk rfl KR.out.2)
theorem p_Spot (x : Cl) (r : Cw) (s : Se) (hN : x.t.length ≤ maxLen) (hM : x.l.length ≤ maxLen) (w : World) (h : Clw w w.heap.size x r) : Calls Try.prog 16 #[cv x r, sv s] w (Did (.tuple #[spv (spW x s) (spR x s), .bool (seatB x s)]) w) := by
  cases hs : seatB x s with
  | false =>
    have := p_SpotN x r s hN hM hs w h
    exact this
  | true =>
    by_cases ht : 0 ≤ s.t
    · by_cases hp : 0 ≤ s.p
      · exact p_SpotTP x r s hN hM hs ht hp w h
      · by_cases hl : 0 < x.l.length
        · exact p_SpotTm x r s hN hM hs ht hp hl w h
        · exact p_SpotTn x r s hN hM hs ht hp hl w h
    · by_cases hp : 0 ≤ s.p
      · exact p_SpottP x r s hN hM hs ht hp w h
      · by_cases hl : 0 < x.l.length
        · exact p_Spottm x r s hN hM hs ht hp hl w h
        · exact p_Spottn x r s hN hM hs ht hp hl w h
end Go.Proofs.Ytcnpfchopjopeaa
