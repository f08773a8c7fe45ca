/- The law's own ahead: of rooms, persons, classes, courses. -/
import Derived.Test.YtgmgccepmalahaaGreatPrmQ
namespace Go.Proofs.YtgmgccepmalahaaGreat
open Go.RowKit
open Whn (Gr Wh)

set_option maxRecDepth 20000 in
set_option maxHeartbeats 16000000 in
theorem p_ahead11 (x : PbA) (k : Nat) (hk : k ≤ x.rm.length) (w : World) (h : PbIn w x) (hf : PbFew x) : Calls Tryz.prog 37 #[pbv x, .int .i64 11, .int .i64 (k : Int)] w (AhRet (c11 x.p k) w) := by
  have hkc : (k : Int) ≤ (x.c0 : Int) := by have := h.rmC; omega
  have k0 : (0 : Int) ≤ (k : Int) := by omega
  have HNo := hid (fun X => p_nought k (by have := hf.1; omega) X)
  have HI := hid h
  have HF := hid hf
  obtain ⟨G, W, hG, hW, K0, hb0⟩ := (Mem.nil w).one (pbc x) 34
  obtain ⟨Z, V, hZ, hV, K1, hb1⟩ := K0.out.one z17L 34
  obtain ⟨Q, U, hQ, hU, K2, hb2⟩ := K1.out.one (qv x (.slice x.r0 x.rm.length x.c0) (.slice x.r1 x.wk.length x.c1) nS nS nS nS nS) 34
  have HGw := hid (show w.heap.size ≤ G ∧ w.heap.size ≤ Z ∧ w.heap.size ≤ Q ∧ G ≠ Z ∧ Q ≠ Z ∧ Q ≠ G from by
    have h1 := (K0.out.at_ (b := G) (cs := (pbc x)) (t := 34) (by simp)).lt
    have h2 := (K1.out.at_ (b := Z) (cs := z17L) (t := 34) (by simp)).lt
    have h3 := (K1.out.at_ (b := G) (cs := (pbc x)) (t := 34) (by simp)).lt
    omega)
  have HQn := hid (show ∀ p ∈ ([(Z, z17L, 34), (G, (pbc x), 34)] : Obs), p.1 ≠ Q from by
    intro p hp
    simp only [List.mem_cons, List.not_mem_nil, or_false] at hp
    rcases hp with rfl | rfl
    · exact fun e => HGw.out.2.2.2.2.1 e.symm
    · exact fun e => HGw.out.2.2.2.2.2 e.symm)
  have M0 := K2
  obtain ⟨p0, p1, p2, p3, p4, p5, p6, p7, p8, p9, p10, p11, p12, p13, p14⟩ := K1.out.pb (B := G) (x := x) (t := 34) (by simp)
  have HU := hid hU
  clear h hf hb0 hb1 hb2 K0 K1 K2 hU
  go_enter Tryz.func37, Tryz.ntmps37
  go_upto_region 2 with fail
  rw [HU.out]
  clear p0 p1 p2 p3 p4 p5 p6 p7 p8 p9 p10 p11 p12 p13 p14 HU hQ hZ hV hG hW
  have c0 := M0.out.cell (b := G) (cs := (pbc x)) (t := 34) (by simp) (k := 4) rfl
  have y0 := M0.out.cell (b := Q) (cs := (qv x (.slice x.r0 x.rm.length x.c0) (.slice x.r1 x.wk.length x.c1) nS nS nS nS nS)) (t := 34) (by simp) (k := 4) rfl
  have g0 := (M0.out.at_ (b := Q) (cs := (qv x (.slice x.r0 x.rm.length x.c0) (.slice x.r1 x.wk.length x.c1) nS nS nS nS nS)) (t := 34) (by simp)).free 4
  obtain ⟨X0, hX0⟩ : ∃ X, U.setCell ⟨Q, 4, none⟩ (.slice x.r0 k x.c0) = X := ⟨_, rfl⟩
  have N0 := hid (show Mem w X0 [(Q, (qv x (.slice x.r0 k x.c0) (.slice x.r1 x.wk.length x.c1) nS nS nS nS nS), 34), (Z, z17L, 34), (G, (pbc x), 34)] from hX0 ▸ M0.out.set HGw.out.2.2.1 HQn.out 4 (.slice x.r0 k x.c0))
  go_wp2_with fail
  refine (HNo.out _).mono ?_
  rintro e Y ⟨A9, d9, rfl, hz, hd, bz⟩
  have MY := hid (N0.out.next bz)
  have HZ9 := hid hz
  have HQb := hid (show Q < X0.heap.size ∧ Z < X0.heap.size from ⟨(N0.out.at_ (b := Q) (cs := (qv x (.slice x.r0 k x.c0) (.slice x.r1 x.wk.length x.c1) nS nS nS nS nS)) (t := 34) (by simp)).lt, (N0.out.at_ (b := Z) (cs := z17L) (t := 34) (by simp)).lt⟩)
  clear bz hz
  have c1 := MY.out.cell (b := G) (cs := (pbc x)) (t := 34) (by simp) (k := 5) rfl
  have y1 := MY.out.cell (b := Q) (cs := (qv x (.slice x.r0 k x.c0) (.slice x.r1 x.wk.length x.c1) nS nS nS nS nS)) (t := 34) (by simp) (k := 5) rfl
  have g1 := (MY.out.at_ (b := Q) (cs := (qv x (.slice x.r0 k x.c0) (.slice x.r1 x.wk.length x.c1) nS nS nS nS nS)) (t := 34) (by simp)).free 5
  obtain ⟨X1, hX1⟩ : ∃ X, Y.setCell ⟨Q, 5, none⟩ (.slice A9 k d9) = X := ⟨_, rfl⟩
  have N1 := hid (show Mem w X1 [(Q, (qv x (.slice x.r0 k x.c0) (.slice A9 k d9) nS nS nS nS nS), 34), (Z, z17L, 34), (G, (pbc x), 34)] from hX1 ▸ MY.out.set HGw.out.2.2.1 HQn.out 5 (.slice A9 k d9))
  have U1 := hid (show Abv X0.heap.size Y X1 from hX1 ▸ Abv.set _ _ _ HQb.out.1)
  have gz := (N1.out.at_ (b := Z) (cs := z17L) (t := 34) (by simp)).free
  have f0 := gz 0
  have e0 := N1.out.cell (b := Q) (cs := (qv x (.slice x.r0 k x.c0) (.slice A9 k d9) nS nS nS nS nS)) (t := 34) (by simp) (k := 0) rfl
  have z0 := N1.out.cell (b := Z) (cs := z17L) (t := 34) (by simp) (k := 0) rfl
  have f1 := gz 1
  have e1 := N1.out.cell (b := Q) (cs := (qv x (.slice x.r0 k x.c0) (.slice A9 k d9) nS nS nS nS nS)) (t := 34) (by simp) (k := 1) rfl
  have z1 := N1.out.cell (b := Z) (cs := z17L) (t := 34) (by simp) (k := 1) rfl
  have f2 := gz 2
  have e2 := N1.out.cell (b := Q) (cs := (qv x (.slice x.r0 k x.c0) (.slice A9 k d9) nS nS nS nS nS)) (t := 34) (by simp) (k := 2) rfl
  have z2 := N1.out.cell (b := Z) (cs := z17L) (t := 34) (by simp) (k := 2) rfl
  have f3 := gz 3
  have e3 := N1.out.cell (b := Q) (cs := (qv x (.slice x.r0 k x.c0) (.slice A9 k d9) nS nS nS nS nS)) (t := 34) (by simp) (k := 3) rfl
  have z3 := N1.out.cell (b := Z) (cs := z17L) (t := 34) (by simp) (k := 3) rfl
  have f4 := gz 4
  have e4 := N1.out.cell (b := Q) (cs := (qv x (.slice x.r0 k x.c0) (.slice A9 k d9) nS nS nS nS nS)) (t := 34) (by simp) (k := 4) rfl
  have z4 := N1.out.cell (b := Z) (cs := z17L) (t := 34) (by simp) (k := 4) rfl
  have f5 := gz 5
  have e5 := N1.out.cell (b := Q) (cs := (qv x (.slice x.r0 k x.c0) (.slice A9 k d9) nS nS nS nS nS)) (t := 34) (by simp) (k := 5) rfl
  have z5 := N1.out.cell (b := Z) (cs := z17L) (t := 34) (by simp) (k := 5) rfl
  have f6 := gz 6
  have e6 := N1.out.cell (b := Q) (cs := (qv x (.slice x.r0 k x.c0) (.slice A9 k d9) nS nS nS nS nS)) (t := 34) (by simp) (k := 6) rfl
  have z6 := N1.out.cell (b := Z) (cs := z17L) (t := 34) (by simp) (k := 6) rfl
  have f7 := gz 7
  have e7 := N1.out.cell (b := Q) (cs := (qv x (.slice x.r0 k x.c0) (.slice A9 k d9) nS nS nS nS nS)) (t := 34) (by simp) (k := 7) rfl
  have z7 := N1.out.cell (b := Z) (cs := z17L) (t := 34) (by simp) (k := 7) rfl
  have f8 := gz 8
  have e8 := N1.out.cell (b := Q) (cs := (qv x (.slice x.r0 k x.c0) (.slice A9 k d9) nS nS nS nS nS)) (t := 34) (by simp) (k := 8) rfl
  have z8 := N1.out.cell (b := Z) (cs := z17L) (t := 34) (by simp) (k := 8) rfl
  have f9 := gz 9
  have e9 := N1.out.cell (b := Q) (cs := (qv x (.slice x.r0 k x.c0) (.slice A9 k d9) nS nS nS nS nS)) (t := 34) (by simp) (k := 9) rfl
  have z9 := N1.out.cell (b := Z) (cs := z17L) (t := 34) (by simp) (k := 9) rfl
  have f10 := gz 10
  have e10 := N1.out.cell (b := Q) (cs := (qv x (.slice x.r0 k x.c0) (.slice A9 k d9) nS nS nS nS nS)) (t := 34) (by simp) (k := 10) rfl
  have z10 := N1.out.cell (b := Z) (cs := z17L) (t := 34) (by simp) (k := 10) rfl
  have f11 := gz 11
  have e11 := N1.out.cell (b := Q) (cs := (qv x (.slice x.r0 k x.c0) (.slice A9 k d9) nS nS nS nS nS)) (t := 34) (by simp) (k := 11) rfl
  have z11 := N1.out.cell (b := Z) (cs := z17L) (t := 34) (by simp) (k := 11) rfl
  have f12 := gz 12
  have e12 := N1.out.cell (b := Q) (cs := (qv x (.slice x.r0 k x.c0) (.slice A9 k d9) nS nS nS nS nS)) (t := 34) (by simp) (k := 12) rfl
  have z12 := N1.out.cell (b := Z) (cs := z17L) (t := 34) (by simp) (k := 12) rfl
  have f13 := gz 13
  have e13 := N1.out.cell (b := Q) (cs := (qv x (.slice x.r0 k x.c0) (.slice A9 k d9) nS nS nS nS nS)) (t := 34) (by simp) (k := 13) rfl
  have z13 := N1.out.cell (b := Z) (cs := z17L) (t := 34) (by simp) (k := 13) rfl
  have f14 := gz 14
  have e14 := N1.out.cell (b := Q) (cs := (qv x (.slice x.r0 k x.c0) (.slice A9 k d9) nS nS nS nS nS)) (t := 34) (by simp) (k := 14) rfl
  have z14 := N1.out.cell (b := Z) (cs := z17L) (t := 34) (by simp) (k := 14) rfl
  clear gz
  have MZ := hid (N1.out.sub (l' := [(Z, z17L, 34), (Q, (qv x (.slice x.r0 k x.c0) (.slice A9 k d9) nS nS nS nS nS), 34), (G, (pbc x), 34)]) (by simp))
  have HGZ := hid (show ∀ p ∈ ([(Q, (qv x (.slice x.r0 k x.c0) (.slice A9 k d9) nS nS nS nS nS), 34), (G, (pbc x), 34)] : Obs), p.1 ≠ Z from by
    intro p hp
    simp only [List.mem_cons, List.not_mem_nil, or_false] at hp
    rcases hp with rfl | rfl
    · exact HGw.out.2.2.2.2.1
    · exact HGw.out.2.2.2.1)
  obtain ⟨R, hR⟩ : ∃ R, (((((((((((((((X1.setCell ⟨Z, 0, none⟩ (txt x.n)).setCell ⟨Z, 1, none⟩ (.int .i64 x.g.w)).setCell ⟨Z, 2, none⟩ (.int .i64 x.g.d)).setCell ⟨Z, 3, none⟩ (.int .i64 x.g.s)).setCell ⟨Z, 4, none⟩ (.slice x.r0 k x.c0)).setCell ⟨Z, 5, none⟩ (.slice A9 k d9)).setCell ⟨Z, 6, none⟩ (.slice none 0 0)).setCell ⟨Z, 7, none⟩ (.slice none 0 0)).setCell ⟨Z, 8, none⟩ (.slice none 0 0)).setCell ⟨Z, 9, none⟩ (.slice none 0 0)).setCell ⟨Z, 10, none⟩ (.slice none 0 0)).setCell ⟨Z, 11, none⟩ (.int .i64 0)).setCell ⟨Z, 12, none⟩ (.int .i64 0)).setCell ⟨Z, 13, none⟩ (.int .i64 0)).setCell ⟨Z, 14, none⟩ (.int .i64 0)) = R := ⟨_, rfl⟩
  have MR := hid (show Mem w R [(Z, (qv x (.slice x.r0 k x.c0) (.slice A9 k d9) nS nS nS nS nS), 34), (Q, (qv x (.slice x.r0 k x.c0) (.slice A9 k d9) nS nS nS nS nS), 34), (G, (pbc x), 34)] from hR ▸ (((((((((((((((MZ.out.set HGw.out.2.1 HGZ.out 0 (txt x.n)).set HGw.out.2.1 HGZ.out 1 (.int .i64 x.g.w)).set HGw.out.2.1 HGZ.out 2 (.int .i64 x.g.d)).set HGw.out.2.1 HGZ.out 3 (.int .i64 x.g.s)).set HGw.out.2.1 HGZ.out 4 (.slice x.r0 k x.c0)).set HGw.out.2.1 HGZ.out 5 (.slice A9 k d9)).set HGw.out.2.1 HGZ.out 6 (.slice none 0 0)).set HGw.out.2.1 HGZ.out 7 (.slice none 0 0)).set HGw.out.2.1 HGZ.out 8 (.slice none 0 0)).set HGw.out.2.1 HGZ.out 9 (.slice none 0 0)).set HGw.out.2.1 HGZ.out 10 (.slice none 0 0)).set HGw.out.2.1 HGZ.out 11 (.int .i64 0)).set HGw.out.2.1 HGZ.out 12 (.int .i64 0)).set HGw.out.2.1 HGZ.out 13 (.int .i64 0)).set HGw.out.2.1 HGZ.out 14 (.int .i64 0)))
  have UR := hid (show Abv X0.heap.size X1 R from hR ▸ (((((((((((((((Abv.set _ _ _ HQb.out.2).trans (Abv.set _ _ _ HQb.out.2)).trans (Abv.set _ _ _ HQb.out.2)).trans (Abv.set _ _ _ HQb.out.2)).trans (Abv.set _ _ _ HQb.out.2)).trans (Abv.set _ _ _ HQb.out.2)).trans (Abv.set _ _ _ HQb.out.2)).trans (Abv.set _ _ _ HQb.out.2)).trans (Abv.set _ _ _ HQb.out.2)).trans (Abv.set _ _ _ HQb.out.2)).trans (Abv.set _ _ _ HQb.out.2)).trans (Abv.set _ _ _ HQb.out.2)).trans (Abv.set _ _ _ HQb.out.2)).trans (Abv.set _ _ _ HQb.out.2)).trans (Abv.set _ _ _ HQb.out.2)))
  have HZR := hid ((HZ9.out.abv U1.out).abv UR.out)
  clear U1 UR HZ9
  have r0 := MR.out.cell (b := Z) (cs := (qv x (.slice x.r0 k x.c0) (.slice A9 k d9) nS nS nS nS nS)) (t := 34) (by simp) (k := 0) rfl
  have r1 := MR.out.cell (b := Z) (cs := (qv x (.slice x.r0 k x.c0) (.slice A9 k d9) nS nS nS nS nS)) (t := 34) (by simp) (k := 1) rfl
  have r2 := MR.out.cell (b := Z) (cs := (qv x (.slice x.r0 k x.c0) (.slice A9 k d9) nS nS nS nS nS)) (t := 34) (by simp) (k := 2) rfl
  have r3 := MR.out.cell (b := Z) (cs := (qv x (.slice x.r0 k x.c0) (.slice A9 k d9) nS nS nS nS nS)) (t := 34) (by simp) (k := 3) rfl
  have r4 := MR.out.cell (b := Z) (cs := (qv x (.slice x.r0 k x.c0) (.slice A9 k d9) nS nS nS nS nS)) (t := 34) (by simp) (k := 4) rfl
  have r5 := MR.out.cell (b := Z) (cs := (qv x (.slice x.r0 k x.c0) (.slice A9 k d9) nS nS nS nS nS)) (t := 34) (by simp) (k := 5) rfl
  have r6 := MR.out.cell (b := Z) (cs := (qv x (.slice x.r0 k x.c0) (.slice A9 k d9) nS nS nS nS nS)) (t := 34) (by simp) (k := 6) rfl
  have r7 := MR.out.cell (b := Z) (cs := (qv x (.slice x.r0 k x.c0) (.slice A9 k d9) nS nS nS nS nS)) (t := 34) (by simp) (k := 7) rfl
  have r8 := MR.out.cell (b := Z) (cs := (qv x (.slice x.r0 k x.c0) (.slice A9 k d9) nS nS nS nS nS)) (t := 34) (by simp) (k := 8) rfl
  have r9 := MR.out.cell (b := Z) (cs := (qv x (.slice x.r0 k x.c0) (.slice A9 k d9) nS nS nS nS nS)) (t := 34) (by simp) (k := 9) rfl
  have r10 := MR.out.cell (b := Z) (cs := (qv x (.slice x.r0 k x.c0) (.slice A9 k d9) nS nS nS nS nS)) (t := 34) (by simp) (k := 10) rfl
  have r11 := MR.out.cell (b := Z) (cs := (qv x (.slice x.r0 k x.c0) (.slice A9 k d9) nS nS nS nS nS)) (t := 34) (by simp) (k := 11) rfl
  have r12 := MR.out.cell (b := Z) (cs := (qv x (.slice x.r0 k x.c0) (.slice A9 k d9) nS nS nS nS nS)) (t := 34) (by simp) (k := 12) rfl
  have r13 := MR.out.cell (b := Z) (cs := (qv x (.slice x.r0 k x.c0) (.slice A9 k d9) nS nS nS nS nS)) (t := 34) (by simp) (k := 13) rfl
  have r14 := MR.out.cell (b := Z) (cs := (qv x (.slice x.r0 k x.c0) (.slice A9 k d9) nS nS nS nS nS)) (t := 34) (by simp) (k := 14) rfl
  clear MZ HGZ HQn
  go_wp2_with fail
  obtain ⟨A8, d8, e8, hr8, hc8⟩ := HZR.out.rows
  injection e8 with e1 _ e3
  subst e1; subst e3
  have hf := HF.out
  unfold PbFew at hf
  exact bodyPost_ret (v := .tuple #[.agg #[txt x.n, .int .i64 x.g.w, .int .i64 x.g.d, .int .i64 x.g.s, .slice x.r0 k x.c0, .slice A9 k d9, .slice none 0 0, .slice none 0 0, .slice none 0 0, .slice none 0 0, .slice none 0 0, .int .i64 0, .int .i64 0, .int .i64 0, .int .i64 0], .bool true]) (by simp [results, Tryz.results37, go_sem, r0, r1, r2, r3, r4, r5, r6, r7, r8, r9, r10, r11, r12, r13, r14]) rfl ⟨⟨x.n, x.g, (x.rm.take k), (List.replicate k (List.replicate k 0)), [], [], [], [], [], 0, 0, 0, 0, x.r0, x.c0, A9, d9, none, 0, none, 0, none, 0, none, 0, none, 0⟩, by unfold pbv; simp only [List.length_take, List.length_replicate, List.length_nil, Nat.min_eq_left hk], in11 (HI.out.next MR.out.2) k A9 d9 hr8 hc8, by unfold PbA.p c11; simp only [List.map_take, List.map_nil], by unfold PbFew; simp only [List.length_take, List.length_replicate, List.length_nil]; omega, MR.out.2⟩
set_option maxRecDepth 20000 in
set_option maxHeartbeats 16000000 in
theorem p_ahead12 (x : PbA) (k : Nat) (hk : k ≤ x.ps.length) (w : World) (h : PbIn w x) (hf : PbFew x) : Calls Tryz.prog 37 #[pbv x, .int .i64 12, .int .i64 (k : Int)] w (AhRet (c12 x.p k) w) := by
  have hkc : (k : Int) ≤ (x.c2 : Int) := by have := h.psC; omega
  have k0 : (0 : Int) ≤ (k : Int) := by omega
  have HI := hid h
  have HF := hid hf
  obtain ⟨G, W, hG, hW, K0, hb0⟩ := (Mem.nil w).one (pbc x) 34
  obtain ⟨Z, V, hZ, hV, K1, hb1⟩ := K0.out.one z17L 34
  obtain ⟨Q, U, hQ, hU, K2, hb2⟩ := K1.out.one (qv x (.slice x.r0 x.rm.length x.c0) (.slice x.r1 x.wk.length x.c1) nS nS nS nS nS) 34
  have HGw := hid (show w.heap.size ≤ G ∧ w.heap.size ≤ Z ∧ w.heap.size ≤ Q ∧ G ≠ Z ∧ Q ≠ Z ∧ Q ≠ G from by
    have h1 := (K0.out.at_ (b := G) (cs := (pbc x)) (t := 34) (by simp)).lt
    have h2 := (K1.out.at_ (b := Z) (cs := z17L) (t := 34) (by simp)).lt
    have h3 := (K1.out.at_ (b := G) (cs := (pbc x)) (t := 34) (by simp)).lt
    omega)
  have HQn := hid (show ∀ p ∈ ([(Z, z17L, 34), (G, (pbc x), 34)] : Obs), p.1 ≠ Q from by
    intro p hp
    simp only [List.mem_cons, List.not_mem_nil, or_false] at hp
    rcases hp with rfl | rfl
    · exact fun e => HGw.out.2.2.2.2.1 e.symm
    · exact fun e => HGw.out.2.2.2.2.2 e.symm)
  have M0 := K2
  obtain ⟨p0, p1, p2, p3, p4, p5, p6, p7, p8, p9, p10, p11, p12, p13, p14⟩ := K1.out.pb (B := G) (x := x) (t := 34) (by simp)
  have HU := hid hU
  clear h hf hb0 hb1 hb2 K0 K1 K2 hU
  go_enter Tryz.func37, Tryz.ntmps37
  go_upto_region 2 with fail
  rw [HU.out]
  clear p0 p1 p2 p3 p4 p5 p6 p7 p8 p9 p10 p11 p12 p13 p14 HU hQ hZ hV hG hW
  have c0 := M0.out.cell (b := G) (cs := (pbc x)) (t := 34) (by simp) (k := 6) rfl
  have y0 := M0.out.cell (b := Q) (cs := (qv x (.slice x.r0 x.rm.length x.c0) (.slice x.r1 x.wk.length x.c1) nS nS nS nS nS)) (t := 34) (by simp) (k := 6) rfl
  have g0 := (M0.out.at_ (b := Q) (cs := (qv x (.slice x.r0 x.rm.length x.c0) (.slice x.r1 x.wk.length x.c1) nS nS nS nS nS)) (t := 34) (by simp)).free 6
  obtain ⟨X0, hX0⟩ : ∃ X, U.setCell ⟨Q, 6, none⟩ (.slice x.r2 k x.c2) = X := ⟨_, rfl⟩
  have N0 := hid (show Mem w X0 [(Q, (qv x (.slice x.r0 x.rm.length x.c0) (.slice x.r1 x.wk.length x.c1) (.slice x.r2 k x.c2) nS nS nS nS), 34), (Z, z17L, 34), (G, (pbc x), 34)] from hX0 ▸ M0.out.set HGw.out.2.2.1 HQn.out 6 (.slice x.r2 k x.c2))
  have gz := (N0.out.at_ (b := Z) (cs := z17L) (t := 34) (by simp)).free
  have f0 := gz 0
  have e0 := N0.out.cell (b := Q) (cs := (qv x (.slice x.r0 x.rm.length x.c0) (.slice x.r1 x.wk.length x.c1) (.slice x.r2 k x.c2) nS nS nS nS)) (t := 34) (by simp) (k := 0) rfl
  have z0 := N0.out.cell (b := Z) (cs := z17L) (t := 34) (by simp) (k := 0) rfl
  have f1 := gz 1
  have e1 := N0.out.cell (b := Q) (cs := (qv x (.slice x.r0 x.rm.length x.c0) (.slice x.r1 x.wk.length x.c1) (.slice x.r2 k x.c2) nS nS nS nS)) (t := 34) (by simp) (k := 1) rfl
  have z1 := N0.out.cell (b := Z) (cs := z17L) (t := 34) (by simp) (k := 1) rfl
  have f2 := gz 2
  have e2 := N0.out.cell (b := Q) (cs := (qv x (.slice x.r0 x.rm.length x.c0) (.slice x.r1 x.wk.length x.c1) (.slice x.r2 k x.c2) nS nS nS nS)) (t := 34) (by simp) (k := 2) rfl
  have z2 := N0.out.cell (b := Z) (cs := z17L) (t := 34) (by simp) (k := 2) rfl
  have f3 := gz 3
  have e3 := N0.out.cell (b := Q) (cs := (qv x (.slice x.r0 x.rm.length x.c0) (.slice x.r1 x.wk.length x.c1) (.slice x.r2 k x.c2) nS nS nS nS)) (t := 34) (by simp) (k := 3) rfl
  have z3 := N0.out.cell (b := Z) (cs := z17L) (t := 34) (by simp) (k := 3) rfl
  have f4 := gz 4
  have e4 := N0.out.cell (b := Q) (cs := (qv x (.slice x.r0 x.rm.length x.c0) (.slice x.r1 x.wk.length x.c1) (.slice x.r2 k x.c2) nS nS nS nS)) (t := 34) (by simp) (k := 4) rfl
  have z4 := N0.out.cell (b := Z) (cs := z17L) (t := 34) (by simp) (k := 4) rfl
  have f5 := gz 5
  have e5 := N0.out.cell (b := Q) (cs := (qv x (.slice x.r0 x.rm.length x.c0) (.slice x.r1 x.wk.length x.c1) (.slice x.r2 k x.c2) nS nS nS nS)) (t := 34) (by simp) (k := 5) rfl
  have z5 := N0.out.cell (b := Z) (cs := z17L) (t := 34) (by simp) (k := 5) rfl
  have f6 := gz 6
  have e6 := N0.out.cell (b := Q) (cs := (qv x (.slice x.r0 x.rm.length x.c0) (.slice x.r1 x.wk.length x.c1) (.slice x.r2 k x.c2) nS nS nS nS)) (t := 34) (by simp) (k := 6) rfl
  have z6 := N0.out.cell (b := Z) (cs := z17L) (t := 34) (by simp) (k := 6) rfl
  have f7 := gz 7
  have e7 := N0.out.cell (b := Q) (cs := (qv x (.slice x.r0 x.rm.length x.c0) (.slice x.r1 x.wk.length x.c1) (.slice x.r2 k x.c2) nS nS nS nS)) (t := 34) (by simp) (k := 7) rfl
  have z7 := N0.out.cell (b := Z) (cs := z17L) (t := 34) (by simp) (k := 7) rfl
  have f8 := gz 8
  have e8 := N0.out.cell (b := Q) (cs := (qv x (.slice x.r0 x.rm.length x.c0) (.slice x.r1 x.wk.length x.c1) (.slice x.r2 k x.c2) nS nS nS nS)) (t := 34) (by simp) (k := 8) rfl
  have z8 := N0.out.cell (b := Z) (cs := z17L) (t := 34) (by simp) (k := 8) rfl
  have f9 := gz 9
  have e9 := N0.out.cell (b := Q) (cs := (qv x (.slice x.r0 x.rm.length x.c0) (.slice x.r1 x.wk.length x.c1) (.slice x.r2 k x.c2) nS nS nS nS)) (t := 34) (by simp) (k := 9) rfl
  have z9 := N0.out.cell (b := Z) (cs := z17L) (t := 34) (by simp) (k := 9) rfl
  have f10 := gz 10
  have e10 := N0.out.cell (b := Q) (cs := (qv x (.slice x.r0 x.rm.length x.c0) (.slice x.r1 x.wk.length x.c1) (.slice x.r2 k x.c2) nS nS nS nS)) (t := 34) (by simp) (k := 10) rfl
  have z10 := N0.out.cell (b := Z) (cs := z17L) (t := 34) (by simp) (k := 10) rfl
  have f11 := gz 11
  have e11 := N0.out.cell (b := Q) (cs := (qv x (.slice x.r0 x.rm.length x.c0) (.slice x.r1 x.wk.length x.c1) (.slice x.r2 k x.c2) nS nS nS nS)) (t := 34) (by simp) (k := 11) rfl
  have z11 := N0.out.cell (b := Z) (cs := z17L) (t := 34) (by simp) (k := 11) rfl
  have f12 := gz 12
  have e12 := N0.out.cell (b := Q) (cs := (qv x (.slice x.r0 x.rm.length x.c0) (.slice x.r1 x.wk.length x.c1) (.slice x.r2 k x.c2) nS nS nS nS)) (t := 34) (by simp) (k := 12) rfl
  have z12 := N0.out.cell (b := Z) (cs := z17L) (t := 34) (by simp) (k := 12) rfl
  have f13 := gz 13
  have e13 := N0.out.cell (b := Q) (cs := (qv x (.slice x.r0 x.rm.length x.c0) (.slice x.r1 x.wk.length x.c1) (.slice x.r2 k x.c2) nS nS nS nS)) (t := 34) (by simp) (k := 13) rfl
  have z13 := N0.out.cell (b := Z) (cs := z17L) (t := 34) (by simp) (k := 13) rfl
  have f14 := gz 14
  have e14 := N0.out.cell (b := Q) (cs := (qv x (.slice x.r0 x.rm.length x.c0) (.slice x.r1 x.wk.length x.c1) (.slice x.r2 k x.c2) nS nS nS nS)) (t := 34) (by simp) (k := 14) rfl
  have z14 := N0.out.cell (b := Z) (cs := z17L) (t := 34) (by simp) (k := 14) rfl
  clear gz
  have MZ := hid (N0.out.sub (l' := [(Z, z17L, 34), (Q, (qv x (.slice x.r0 x.rm.length x.c0) (.slice x.r1 x.wk.length x.c1) (.slice x.r2 k x.c2) nS nS nS nS), 34), (G, (pbc x), 34)]) (by simp))
  have HGZ := hid (show ∀ p ∈ ([(Q, (qv x (.slice x.r0 x.rm.length x.c0) (.slice x.r1 x.wk.length x.c1) (.slice x.r2 k x.c2) nS nS nS nS), 34), (G, (pbc x), 34)] : Obs), p.1 ≠ Z from by
    intro p hp
    simp only [List.mem_cons, List.not_mem_nil, or_false] at hp
    rcases hp with rfl | rfl
    · exact HGw.out.2.2.2.2.1
    · exact HGw.out.2.2.2.1)
  obtain ⟨R, hR⟩ : ∃ R, (((((((((((((((X0.setCell ⟨Z, 0, none⟩ (txt x.n)).setCell ⟨Z, 1, none⟩ (.int .i64 x.g.w)).setCell ⟨Z, 2, none⟩ (.int .i64 x.g.d)).setCell ⟨Z, 3, none⟩ (.int .i64 x.g.s)).setCell ⟨Z, 4, none⟩ (.slice x.r0 x.rm.length x.c0)).setCell ⟨Z, 5, none⟩ (.slice x.r1 x.wk.length x.c1)).setCell ⟨Z, 6, none⟩ (.slice x.r2 k x.c2)).setCell ⟨Z, 7, none⟩ (.slice none 0 0)).setCell ⟨Z, 8, none⟩ (.slice none 0 0)).setCell ⟨Z, 9, none⟩ (.slice none 0 0)).setCell ⟨Z, 10, none⟩ (.slice none 0 0)).setCell ⟨Z, 11, none⟩ (.int .i64 0)).setCell ⟨Z, 12, none⟩ (.int .i64 0)).setCell ⟨Z, 13, none⟩ (.int .i64 0)).setCell ⟨Z, 14, none⟩ (.int .i64 0)) = R := ⟨_, rfl⟩
  have MR := hid (show Mem w R [(Z, (qv x (.slice x.r0 x.rm.length x.c0) (.slice x.r1 x.wk.length x.c1) (.slice x.r2 k x.c2) nS nS nS nS), 34), (Q, (qv x (.slice x.r0 x.rm.length x.c0) (.slice x.r1 x.wk.length x.c1) (.slice x.r2 k x.c2) nS nS nS nS), 34), (G, (pbc x), 34)] from hR ▸ (((((((((((((((MZ.out.set HGw.out.2.1 HGZ.out 0 (txt x.n)).set HGw.out.2.1 HGZ.out 1 (.int .i64 x.g.w)).set HGw.out.2.1 HGZ.out 2 (.int .i64 x.g.d)).set HGw.out.2.1 HGZ.out 3 (.int .i64 x.g.s)).set HGw.out.2.1 HGZ.out 4 (.slice x.r0 x.rm.length x.c0)).set HGw.out.2.1 HGZ.out 5 (.slice x.r1 x.wk.length x.c1)).set HGw.out.2.1 HGZ.out 6 (.slice x.r2 k x.c2)).set HGw.out.2.1 HGZ.out 7 (.slice none 0 0)).set HGw.out.2.1 HGZ.out 8 (.slice none 0 0)).set HGw.out.2.1 HGZ.out 9 (.slice none 0 0)).set HGw.out.2.1 HGZ.out 10 (.slice none 0 0)).set HGw.out.2.1 HGZ.out 11 (.int .i64 0)).set HGw.out.2.1 HGZ.out 12 (.int .i64 0)).set HGw.out.2.1 HGZ.out 13 (.int .i64 0)).set HGw.out.2.1 HGZ.out 14 (.int .i64 0)))
  have r0 := MR.out.cell (b := Z) (cs := (qv x (.slice x.r0 x.rm.length x.c0) (.slice x.r1 x.wk.length x.c1) (.slice x.r2 k x.c2) nS nS nS nS)) (t := 34) (by simp) (k := 0) rfl
  have r1 := MR.out.cell (b := Z) (cs := (qv x (.slice x.r0 x.rm.length x.c0) (.slice x.r1 x.wk.length x.c1) (.slice x.r2 k x.c2) nS nS nS nS)) (t := 34) (by simp) (k := 1) rfl
  have r2 := MR.out.cell (b := Z) (cs := (qv x (.slice x.r0 x.rm.length x.c0) (.slice x.r1 x.wk.length x.c1) (.slice x.r2 k x.c2) nS nS nS nS)) (t := 34) (by simp) (k := 2) rfl
  have r3 := MR.out.cell (b := Z) (cs := (qv x (.slice x.r0 x.rm.length x.c0) (.slice x.r1 x.wk.length x.c1) (.slice x.r2 k x.c2) nS nS nS nS)) (t := 34) (by simp) (k := 3) rfl
  have r4 := MR.out.cell (b := Z) (cs := (qv x (.slice x.r0 x.rm.length x.c0) (.slice x.r1 x.wk.length x.c1) (.slice x.r2 k x.c2) nS nS nS nS)) (t := 34) (by simp) (k := 4) rfl
  have r5 := MR.out.cell (b := Z) (cs := (qv x (.slice x.r0 x.rm.length x.c0) (.slice x.r1 x.wk.length x.c1) (.slice x.r2 k x.c2) nS nS nS nS)) (t := 34) (by simp) (k := 5) rfl
  have r6 := MR.out.cell (b := Z) (cs := (qv x (.slice x.r0 x.rm.length x.c0) (.slice x.r1 x.wk.length x.c1) (.slice x.r2 k x.c2) nS nS nS nS)) (t := 34) (by simp) (k := 6) rfl
  have r7 := MR.out.cell (b := Z) (cs := (qv x (.slice x.r0 x.rm.length x.c0) (.slice x.r1 x.wk.length x.c1) (.slice x.r2 k x.c2) nS nS nS nS)) (t := 34) (by simp) (k := 7) rfl
  have r8 := MR.out.cell (b := Z) (cs := (qv x (.slice x.r0 x.rm.length x.c0) (.slice x.r1 x.wk.length x.c1) (.slice x.r2 k x.c2) nS nS nS nS)) (t := 34) (by simp) (k := 8) rfl
  have r9 := MR.out.cell (b := Z) (cs := (qv x (.slice x.r0 x.rm.length x.c0) (.slice x.r1 x.wk.length x.c1) (.slice x.r2 k x.c2) nS nS nS nS)) (t := 34) (by simp) (k := 9) rfl
  have r10 := MR.out.cell (b := Z) (cs := (qv x (.slice x.r0 x.rm.length x.c0) (.slice x.r1 x.wk.length x.c1) (.slice x.r2 k x.c2) nS nS nS nS)) (t := 34) (by simp) (k := 10) rfl
  have r11 := MR.out.cell (b := Z) (cs := (qv x (.slice x.r0 x.rm.length x.c0) (.slice x.r1 x.wk.length x.c1) (.slice x.r2 k x.c2) nS nS nS nS)) (t := 34) (by simp) (k := 11) rfl
  have r12 := MR.out.cell (b := Z) (cs := (qv x (.slice x.r0 x.rm.length x.c0) (.slice x.r1 x.wk.length x.c1) (.slice x.r2 k x.c2) nS nS nS nS)) (t := 34) (by simp) (k := 12) rfl
  have r13 := MR.out.cell (b := Z) (cs := (qv x (.slice x.r0 x.rm.length x.c0) (.slice x.r1 x.wk.length x.c1) (.slice x.r2 k x.c2) nS nS nS nS)) (t := 34) (by simp) (k := 13) rfl
  have r14 := MR.out.cell (b := Z) (cs := (qv x (.slice x.r0 x.rm.length x.c0) (.slice x.r1 x.wk.length x.c1) (.slice x.r2 k x.c2) nS nS nS nS)) (t := 34) (by simp) (k := 14) rfl
  clear MZ HGZ HQn
  go_wp2_with fail
  have hf := HF.out
  unfold PbFew at hf
  exact bodyPost_ret (v := .tuple #[.agg #[txt x.n, .int .i64 x.g.w, .int .i64 x.g.d, .int .i64 x.g.s, .slice x.r0 x.rm.length x.c0, .slice x.r1 x.wk.length x.c1, .slice x.r2 k x.c2, .slice none 0 0, .slice none 0 0, .slice none 0 0, .slice none 0 0, .int .i64 0, .int .i64 0, .int .i64 0, .int .i64 0], .bool true]) (by simp [results, Tryz.results37, go_sem, r0, r1, r2, r3, r4, r5, r6, r7, r8, r9, r10, r11, r12, r13, r14]) rfl ⟨⟨x.n, x.g, x.rm, x.wk, (x.ps.take k), [], [], [], [], 0, 0, 0, 0, x.r0, x.c0, x.r1, x.c1, x.r2, x.c2, none, 0, none, 0, none, 0, none, 0⟩, by unfold pbv; simp only [List.length_take, List.length_nil, Nat.min_eq_left hk], in12 (HI.out.next MR.out.2) k, by unfold PbA.p c12; simp only [List.map_take, List.map_nil], by unfold PbFew; simp only [List.length_take, List.length_nil]; omega, MR.out.2⟩
set_option maxRecDepth 20000 in
set_option maxHeartbeats 16000000 in
theorem p_ahead13 (x : PbA) (i : Int) (w : World) (h : PbIn w x) (hf : PbFew x) : Calls Tryz.prog 37 #[pbv x, .int .i64 13, .int .i64 i] w (AhRet (c13 x.p) w) := by
  have HI := hid h
  have HF := hid hf
  obtain ⟨G, W, hG, hW, K0, hb0⟩ := (Mem.nil w).one (pbc x) 34
  obtain ⟨Z, V, hZ, hV, K1, hb1⟩ := K0.out.one z17L 34
  obtain ⟨Q, U, hQ, hU, K2, hb2⟩ := K1.out.one (qv x (.slice x.r0 x.rm.length x.c0) (.slice x.r1 x.wk.length x.c1) nS nS nS nS nS) 34
  have HGw := hid (show w.heap.size ≤ G ∧ w.heap.size ≤ Z ∧ w.heap.size ≤ Q ∧ G ≠ Z ∧ Q ≠ Z ∧ Q ≠ G from by
    have h1 := (K0.out.at_ (b := G) (cs := (pbc x)) (t := 34) (by simp)).lt
    have h2 := (K1.out.at_ (b := Z) (cs := z17L) (t := 34) (by simp)).lt
    have h3 := (K1.out.at_ (b := G) (cs := (pbc x)) (t := 34) (by simp)).lt
    omega)
  have HQn := hid (show ∀ p ∈ ([(Z, z17L, 34), (G, (pbc x), 34)] : Obs), p.1 ≠ Q from by
    intro p hp
    simp only [List.mem_cons, List.not_mem_nil, or_false] at hp
    rcases hp with rfl | rfl
    · exact fun e => HGw.out.2.2.2.2.1 e.symm
    · exact fun e => HGw.out.2.2.2.2.2 e.symm)
  have M0 := K2
  obtain ⟨p0, p1, p2, p3, p4, p5, p6, p7, p8, p9, p10, p11, p12, p13, p14⟩ := K1.out.pb (B := G) (x := x) (t := 34) (by simp)
  have HU := hid hU
  clear h hf hb0 hb1 hb2 K0 K1 K2 hU
  go_enter Tryz.func37, Tryz.ntmps37
  go_upto_region 2 with fail
  rw [HU.out]
  clear p0 p1 p2 p3 p4 p5 p6 p7 p8 p9 p10 p11 p12 p13 p14 HU hQ hZ hV hG hW
  have c0 := M0.out.cell (b := G) (cs := (pbc x)) (t := 34) (by simp) (k := 6) rfl
  have y0 := M0.out.cell (b := Q) (cs := (qv x (.slice x.r0 x.rm.length x.c0) (.slice x.r1 x.wk.length x.c1) nS nS nS nS nS)) (t := 34) (by simp) (k := 6) rfl
  have g0 := (M0.out.at_ (b := Q) (cs := (qv x (.slice x.r0 x.rm.length x.c0) (.slice x.r1 x.wk.length x.c1) nS nS nS nS nS)) (t := 34) (by simp)).free 6
  obtain ⟨X0, hX0⟩ : ∃ X, U.setCell ⟨Q, 6, none⟩ (.slice x.r2 x.ps.length x.c2) = X := ⟨_, rfl⟩
  have N0 := hid (show Mem w X0 [(Q, (qv x (.slice x.r0 x.rm.length x.c0) (.slice x.r1 x.wk.length x.c1) (.slice x.r2 x.ps.length x.c2) nS nS nS nS), 34), (Z, z17L, 34), (G, (pbc x), 34)] from hX0 ▸ M0.out.set HGw.out.2.2.1 HQn.out 6 (.slice x.r2 x.ps.length x.c2))
  have gz := (N0.out.at_ (b := Z) (cs := z17L) (t := 34) (by simp)).free
  have f0 := gz 0
  have e0 := N0.out.cell (b := Q) (cs := (qv x (.slice x.r0 x.rm.length x.c0) (.slice x.r1 x.wk.length x.c1) (.slice x.r2 x.ps.length x.c2) nS nS nS nS)) (t := 34) (by simp) (k := 0) rfl
  have z0 := N0.out.cell (b := Z) (cs := z17L) (t := 34) (by simp) (k := 0) rfl
  have f1 := gz 1
  have e1 := N0.out.cell (b := Q) (cs := (qv x (.slice x.r0 x.rm.length x.c0) (.slice x.r1 x.wk.length x.c1) (.slice x.r2 x.ps.length x.c2) nS nS nS nS)) (t := 34) (by simp) (k := 1) rfl
  have z1 := N0.out.cell (b := Z) (cs := z17L) (t := 34) (by simp) (k := 1) rfl
  have f2 := gz 2
  have e2 := N0.out.cell (b := Q) (cs := (qv x (.slice x.r0 x.rm.length x.c0) (.slice x.r1 x.wk.length x.c1) (.slice x.r2 x.ps.length x.c2) nS nS nS nS)) (t := 34) (by simp) (k := 2) rfl
  have z2 := N0.out.cell (b := Z) (cs := z17L) (t := 34) (by simp) (k := 2) rfl
  have f3 := gz 3
  have e3 := N0.out.cell (b := Q) (cs := (qv x (.slice x.r0 x.rm.length x.c0) (.slice x.r1 x.wk.length x.c1) (.slice x.r2 x.ps.length x.c2) nS nS nS nS)) (t := 34) (by simp) (k := 3) rfl
  have z3 := N0.out.cell (b := Z) (cs := z17L) (t := 34) (by simp) (k := 3) rfl
  have f4 := gz 4
  have e4 := N0.out.cell (b := Q) (cs := (qv x (.slice x.r0 x.rm.length x.c0) (.slice x.r1 x.wk.length x.c1) (.slice x.r2 x.ps.length x.c2) nS nS nS nS)) (t := 34) (by simp) (k := 4) rfl
  have z4 := N0.out.cell (b := Z) (cs := z17L) (t := 34) (by simp) (k := 4) rfl
  have f5 := gz 5
  have e5 := N0.out.cell (b := Q) (cs := (qv x (.slice x.r0 x.rm.length x.c0) (.slice x.r1 x.wk.length x.c1) (.slice x.r2 x.ps.length x.c2) nS nS nS nS)) (t := 34) (by simp) (k := 5) rfl
  have z5 := N0.out.cell (b := Z) (cs := z17L) (t := 34) (by simp) (k := 5) rfl
  have f6 := gz 6
  have e6 := N0.out.cell (b := Q) (cs := (qv x (.slice x.r0 x.rm.length x.c0) (.slice x.r1 x.wk.length x.c1) (.slice x.r2 x.ps.length x.c2) nS nS nS nS)) (t := 34) (by simp) (k := 6) rfl
  have z6 := N0.out.cell (b := Z) (cs := z17L) (t := 34) (by simp) (k := 6) rfl
  have f7 := gz 7
  have e7 := N0.out.cell (b := Q) (cs := (qv x (.slice x.r0 x.rm.length x.c0) (.slice x.r1 x.wk.length x.c1) (.slice x.r2 x.ps.length x.c2) nS nS nS nS)) (t := 34) (by simp) (k := 7) rfl
  have z7 := N0.out.cell (b := Z) (cs := z17L) (t := 34) (by simp) (k := 7) rfl
  have f8 := gz 8
  have e8 := N0.out.cell (b := Q) (cs := (qv x (.slice x.r0 x.rm.length x.c0) (.slice x.r1 x.wk.length x.c1) (.slice x.r2 x.ps.length x.c2) nS nS nS nS)) (t := 34) (by simp) (k := 8) rfl
  have z8 := N0.out.cell (b := Z) (cs := z17L) (t := 34) (by simp) (k := 8) rfl
  have f9 := gz 9
  have e9 := N0.out.cell (b := Q) (cs := (qv x (.slice x.r0 x.rm.length x.c0) (.slice x.r1 x.wk.length x.c1) (.slice x.r2 x.ps.length x.c2) nS nS nS nS)) (t := 34) (by simp) (k := 9) rfl
  have z9 := N0.out.cell (b := Z) (cs := z17L) (t := 34) (by simp) (k := 9) rfl
  have f10 := gz 10
  have e10 := N0.out.cell (b := Q) (cs := (qv x (.slice x.r0 x.rm.length x.c0) (.slice x.r1 x.wk.length x.c1) (.slice x.r2 x.ps.length x.c2) nS nS nS nS)) (t := 34) (by simp) (k := 10) rfl
  have z10 := N0.out.cell (b := Z) (cs := z17L) (t := 34) (by simp) (k := 10) rfl
  have f11 := gz 11
  have e11 := N0.out.cell (b := Q) (cs := (qv x (.slice x.r0 x.rm.length x.c0) (.slice x.r1 x.wk.length x.c1) (.slice x.r2 x.ps.length x.c2) nS nS nS nS)) (t := 34) (by simp) (k := 11) rfl
  have z11 := N0.out.cell (b := Z) (cs := z17L) (t := 34) (by simp) (k := 11) rfl
  have f12 := gz 12
  have e12 := N0.out.cell (b := Q) (cs := (qv x (.slice x.r0 x.rm.length x.c0) (.slice x.r1 x.wk.length x.c1) (.slice x.r2 x.ps.length x.c2) nS nS nS nS)) (t := 34) (by simp) (k := 12) rfl
  have z12 := N0.out.cell (b := Z) (cs := z17L) (t := 34) (by simp) (k := 12) rfl
  have f13 := gz 13
  have e13 := N0.out.cell (b := Q) (cs := (qv x (.slice x.r0 x.rm.length x.c0) (.slice x.r1 x.wk.length x.c1) (.slice x.r2 x.ps.length x.c2) nS nS nS nS)) (t := 34) (by simp) (k := 13) rfl
  have z13 := N0.out.cell (b := Z) (cs := z17L) (t := 34) (by simp) (k := 13) rfl
  have f14 := gz 14
  have e14 := N0.out.cell (b := Q) (cs := (qv x (.slice x.r0 x.rm.length x.c0) (.slice x.r1 x.wk.length x.c1) (.slice x.r2 x.ps.length x.c2) nS nS nS nS)) (t := 34) (by simp) (k := 14) rfl
  have z14 := N0.out.cell (b := Z) (cs := z17L) (t := 34) (by simp) (k := 14) rfl
  clear gz
  have MZ := hid (N0.out.sub (l' := [(Z, z17L, 34), (Q, (qv x (.slice x.r0 x.rm.length x.c0) (.slice x.r1 x.wk.length x.c1) (.slice x.r2 x.ps.length x.c2) nS nS nS nS), 34), (G, (pbc x), 34)]) (by simp))
  have HGZ := hid (show ∀ p ∈ ([(Q, (qv x (.slice x.r0 x.rm.length x.c0) (.slice x.r1 x.wk.length x.c1) (.slice x.r2 x.ps.length x.c2) nS nS nS nS), 34), (G, (pbc x), 34)] : Obs), p.1 ≠ Z from by
    intro p hp
    simp only [List.mem_cons, List.not_mem_nil, or_false] at hp
    rcases hp with rfl | rfl
    · exact HGw.out.2.2.2.2.1
    · exact HGw.out.2.2.2.1)
  obtain ⟨R, hR⟩ : ∃ R, (((((((((((((((X0.setCell ⟨Z, 0, none⟩ (txt x.n)).setCell ⟨Z, 1, none⟩ (.int .i64 x.g.w)).setCell ⟨Z, 2, none⟩ (.int .i64 x.g.d)).setCell ⟨Z, 3, none⟩ (.int .i64 x.g.s)).setCell ⟨Z, 4, none⟩ (.slice x.r0 x.rm.length x.c0)).setCell ⟨Z, 5, none⟩ (.slice x.r1 x.wk.length x.c1)).setCell ⟨Z, 6, none⟩ (.slice x.r2 x.ps.length x.c2)).setCell ⟨Z, 7, none⟩ (.slice none 0 0)).setCell ⟨Z, 8, none⟩ (.slice none 0 0)).setCell ⟨Z, 9, none⟩ (.slice none 0 0)).setCell ⟨Z, 10, none⟩ (.slice none 0 0)).setCell ⟨Z, 11, none⟩ (.int .i64 0)).setCell ⟨Z, 12, none⟩ (.int .i64 0)).setCell ⟨Z, 13, none⟩ (.int .i64 0)).setCell ⟨Z, 14, none⟩ (.int .i64 0)) = R := ⟨_, rfl⟩
  have MR := hid (show Mem w R [(Z, (qv x (.slice x.r0 x.rm.length x.c0) (.slice x.r1 x.wk.length x.c1) (.slice x.r2 x.ps.length x.c2) nS nS nS nS), 34), (Q, (qv x (.slice x.r0 x.rm.length x.c0) (.slice x.r1 x.wk.length x.c1) (.slice x.r2 x.ps.length x.c2) nS nS nS nS), 34), (G, (pbc x), 34)] from hR ▸ (((((((((((((((MZ.out.set HGw.out.2.1 HGZ.out 0 (txt x.n)).set HGw.out.2.1 HGZ.out 1 (.int .i64 x.g.w)).set HGw.out.2.1 HGZ.out 2 (.int .i64 x.g.d)).set HGw.out.2.1 HGZ.out 3 (.int .i64 x.g.s)).set HGw.out.2.1 HGZ.out 4 (.slice x.r0 x.rm.length x.c0)).set HGw.out.2.1 HGZ.out 5 (.slice x.r1 x.wk.length x.c1)).set HGw.out.2.1 HGZ.out 6 (.slice x.r2 x.ps.length x.c2)).set HGw.out.2.1 HGZ.out 7 (.slice none 0 0)).set HGw.out.2.1 HGZ.out 8 (.slice none 0 0)).set HGw.out.2.1 HGZ.out 9 (.slice none 0 0)).set HGw.out.2.1 HGZ.out 10 (.slice none 0 0)).set HGw.out.2.1 HGZ.out 11 (.int .i64 0)).set HGw.out.2.1 HGZ.out 12 (.int .i64 0)).set HGw.out.2.1 HGZ.out 13 (.int .i64 0)).set HGw.out.2.1 HGZ.out 14 (.int .i64 0)))
  have r0 := MR.out.cell (b := Z) (cs := (qv x (.slice x.r0 x.rm.length x.c0) (.slice x.r1 x.wk.length x.c1) (.slice x.r2 x.ps.length x.c2) nS nS nS nS)) (t := 34) (by simp) (k := 0) rfl
  have r1 := MR.out.cell (b := Z) (cs := (qv x (.slice x.r0 x.rm.length x.c0) (.slice x.r1 x.wk.length x.c1) (.slice x.r2 x.ps.length x.c2) nS nS nS nS)) (t := 34) (by simp) (k := 1) rfl
  have r2 := MR.out.cell (b := Z) (cs := (qv x (.slice x.r0 x.rm.length x.c0) (.slice x.r1 x.wk.length x.c1) (.slice x.r2 x.ps.length x.c2) nS nS nS nS)) (t := 34) (by simp) (k := 2) rfl
  have r3 := MR.out.cell (b := Z) (cs := (qv x (.slice x.r0 x.rm.length x.c0) (.slice x.r1 x.wk.length x.c1) (.slice x.r2 x.ps.length x.c2) nS nS nS nS)) (t := 34) (by simp) (k := 3) rfl
  have r4 := MR.out.cell (b := Z) (cs := (qv x (.slice x.r0 x.rm.length x.c0) (.slice x.r1 x.wk.length x.c1) (.slice x.r2 x.ps.length x.c2) nS nS nS nS)) (t := 34) (by simp) (k := 4) rfl
  have r5 := MR.out.cell (b := Z) (cs := (qv x (.slice x.r0 x.rm.length x.c0) (.slice x.r1 x.wk.length x.c1) (.slice x.r2 x.ps.length x.c2) nS nS nS nS)) (t := 34) (by simp) (k := 5) rfl
  have r6 := MR.out.cell (b := Z) (cs := (qv x (.slice x.r0 x.rm.length x.c0) (.slice x.r1 x.wk.length x.c1) (.slice x.r2 x.ps.length x.c2) nS nS nS nS)) (t := 34) (by simp) (k := 6) rfl
  have r7 := MR.out.cell (b := Z) (cs := (qv x (.slice x.r0 x.rm.length x.c0) (.slice x.r1 x.wk.length x.c1) (.slice x.r2 x.ps.length x.c2) nS nS nS nS)) (t := 34) (by simp) (k := 7) rfl
  have r8 := MR.out.cell (b := Z) (cs := (qv x (.slice x.r0 x.rm.length x.c0) (.slice x.r1 x.wk.length x.c1) (.slice x.r2 x.ps.length x.c2) nS nS nS nS)) (t := 34) (by simp) (k := 8) rfl
  have r9 := MR.out.cell (b := Z) (cs := (qv x (.slice x.r0 x.rm.length x.c0) (.slice x.r1 x.wk.length x.c1) (.slice x.r2 x.ps.length x.c2) nS nS nS nS)) (t := 34) (by simp) (k := 9) rfl
  have r10 := MR.out.cell (b := Z) (cs := (qv x (.slice x.r0 x.rm.length x.c0) (.slice x.r1 x.wk.length x.c1) (.slice x.r2 x.ps.length x.c2) nS nS nS nS)) (t := 34) (by simp) (k := 10) rfl
  have r11 := MR.out.cell (b := Z) (cs := (qv x (.slice x.r0 x.rm.length x.c0) (.slice x.r1 x.wk.length x.c1) (.slice x.r2 x.ps.length x.c2) nS nS nS nS)) (t := 34) (by simp) (k := 11) rfl
  have r12 := MR.out.cell (b := Z) (cs := (qv x (.slice x.r0 x.rm.length x.c0) (.slice x.r1 x.wk.length x.c1) (.slice x.r2 x.ps.length x.c2) nS nS nS nS)) (t := 34) (by simp) (k := 12) rfl
  have r13 := MR.out.cell (b := Z) (cs := (qv x (.slice x.r0 x.rm.length x.c0) (.slice x.r1 x.wk.length x.c1) (.slice x.r2 x.ps.length x.c2) nS nS nS nS)) (t := 34) (by simp) (k := 13) rfl
  have r14 := MR.out.cell (b := Z) (cs := (qv x (.slice x.r0 x.rm.length x.c0) (.slice x.r1 x.wk.length x.c1) (.slice x.r2 x.ps.length x.c2) nS nS nS nS)) (t := 34) (by simp) (k := 14) rfl
  clear MZ HGZ HQn
  go_wp2_with fail
  have hf := HF.out
  unfold PbFew at hf
  exact bodyPost_ret (v := .tuple #[.agg #[txt x.n, .int .i64 x.g.w, .int .i64 x.g.d, .int .i64 x.g.s, .slice x.r0 x.rm.length x.c0, .slice x.r1 x.wk.length x.c1, .slice x.r2 x.ps.length x.c2, .slice none 0 0, .slice none 0 0, .slice none 0 0, .slice none 0 0, .int .i64 0, .int .i64 0, .int .i64 0, .int .i64 0], .bool true]) (by simp [results, Tryz.results37, go_sem, r0, r1, r2, r3, r4, r5, r6, r7, r8, r9, r10, r11, r12, r13, r14]) rfl ⟨⟨x.n, x.g, x.rm, x.wk, x.ps, [], [], [], [], 0, 0, 0, 0, x.r0, x.c0, x.r1, x.c1, x.r2, x.c2, none, 0, none, 0, none, 0, none, 0⟩, rfl, in13 (HI.out.next MR.out.2), rfl, by unfold PbFew; simp only [List.length_nil]; omega, MR.out.2⟩
set_option maxRecDepth 20000 in
set_option maxHeartbeats 16000000 in
theorem p_ahead14 (x : PbA) (k : Nat) (hk : k ≤ x.cs.length) (w : World) (h : PbIn w x) (hf : PbFew x) : Calls Tryz.prog 37 #[pbv x, .int .i64 14, .int .i64 (k : Int)] w (AhRet (c14 x.p k) w) := by
  have hkc : (k : Int) ≤ (x.c4 : Int) := by have := h.csC; omega
  have k0 : (0 : Int) ≤ (k : Int) := by omega
  have HI := hid h
  have HF := hid hf
  obtain ⟨G, W, hG, hW, K0, hb0⟩ := (Mem.nil w).one (pbc x) 34
  obtain ⟨Z, V, hZ, hV, K1, hb1⟩ := K0.out.one z17L 34
  obtain ⟨Q, U, hQ, hU, K2, hb2⟩ := K1.out.one (qv x (.slice x.r0 x.rm.length x.c0) (.slice x.r1 x.wk.length x.c1) nS nS nS nS nS) 34
  have HGw := hid (show w.heap.size ≤ G ∧ w.heap.size ≤ Z ∧ w.heap.size ≤ Q ∧ G ≠ Z ∧ Q ≠ Z ∧ Q ≠ G from by
    have h1 := (K0.out.at_ (b := G) (cs := (pbc x)) (t := 34) (by simp)).lt
    have h2 := (K1.out.at_ (b := Z) (cs := z17L) (t := 34) (by simp)).lt
    have h3 := (K1.out.at_ (b := G) (cs := (pbc x)) (t := 34) (by simp)).lt
    omega)
  have HQn := hid (show ∀ p ∈ ([(Z, z17L, 34), (G, (pbc x), 34)] : Obs), p.1 ≠ Q from by
    intro p hp
    simp only [List.mem_cons, List.not_mem_nil, or_false] at hp
    rcases hp with rfl | rfl
    · exact fun e => HGw.out.2.2.2.2.1 e.symm
    · exact fun e => HGw.out.2.2.2.2.2 e.symm)
  have M0 := K2
  obtain ⟨p0, p1, p2, p3, p4, p5, p6, p7, p8, p9, p10, p11, p12, p13, p14⟩ := K1.out.pb (B := G) (x := x) (t := 34) (by simp)
  have HU := hid hU
  clear h hf hb0 hb1 hb2 K0 K1 K2 hU
  go_enter Tryz.func37, Tryz.ntmps37
  go_upto_region 2 with fail
  rw [HU.out]
  clear p0 p1 p2 p3 p4 p5 p6 p7 p8 p9 p10 p11 p12 p13 p14 HU hQ hZ hV hG hW
  have c0 := M0.out.cell (b := G) (cs := (pbc x)) (t := 34) (by simp) (k := 6) rfl
  have y0 := M0.out.cell (b := Q) (cs := (qv x (.slice x.r0 x.rm.length x.c0) (.slice x.r1 x.wk.length x.c1) nS nS nS nS nS)) (t := 34) (by simp) (k := 6) rfl
  have g0 := (M0.out.at_ (b := Q) (cs := (qv x (.slice x.r0 x.rm.length x.c0) (.slice x.r1 x.wk.length x.c1) nS nS nS nS nS)) (t := 34) (by simp)).free 6
  obtain ⟨X0, hX0⟩ : ∃ X, U.setCell ⟨Q, 6, none⟩ (.slice x.r2 x.ps.length x.c2) = X := ⟨_, rfl⟩
  have N0 := hid (show Mem w X0 [(Q, (qv x (.slice x.r0 x.rm.length x.c0) (.slice x.r1 x.wk.length x.c1) (.slice x.r2 x.ps.length x.c2) nS nS nS nS), 34), (Z, z17L, 34), (G, (pbc x), 34)] from hX0 ▸ M0.out.set HGw.out.2.2.1 HQn.out 6 (.slice x.r2 x.ps.length x.c2))
  have c1 := N0.out.cell (b := G) (cs := (pbc x)) (t := 34) (by simp) (k := 7) rfl
  have y1 := N0.out.cell (b := Q) (cs := (qv x (.slice x.r0 x.rm.length x.c0) (.slice x.r1 x.wk.length x.c1) (.slice x.r2 x.ps.length x.c2) nS nS nS nS)) (t := 34) (by simp) (k := 7) rfl
  have g1 := (N0.out.at_ (b := Q) (cs := (qv x (.slice x.r0 x.rm.length x.c0) (.slice x.r1 x.wk.length x.c1) (.slice x.r2 x.ps.length x.c2) nS nS nS nS)) (t := 34) (by simp)).free 7
  obtain ⟨X1, hX1⟩ : ∃ X, X0.setCell ⟨Q, 7, none⟩ (.slice x.r3 x.cl.length x.c3) = X := ⟨_, rfl⟩
  have N1 := hid (show Mem w X1 [(Q, (qv x (.slice x.r0 x.rm.length x.c0) (.slice x.r1 x.wk.length x.c1) (.slice x.r2 x.ps.length x.c2) (.slice x.r3 x.cl.length x.c3) nS nS nS), 34), (Z, z17L, 34), (G, (pbc x), 34)] from hX1 ▸ N0.out.set HGw.out.2.2.1 HQn.out 7 (.slice x.r3 x.cl.length x.c3))
  have c2 := N1.out.cell (b := G) (cs := (pbc x)) (t := 34) (by simp) (k := 8) rfl
  have y2 := N1.out.cell (b := Q) (cs := (qv x (.slice x.r0 x.rm.length x.c0) (.slice x.r1 x.wk.length x.c1) (.slice x.r2 x.ps.length x.c2) (.slice x.r3 x.cl.length x.c3) nS nS nS)) (t := 34) (by simp) (k := 8) rfl
  have g2 := (N1.out.at_ (b := Q) (cs := (qv x (.slice x.r0 x.rm.length x.c0) (.slice x.r1 x.wk.length x.c1) (.slice x.r2 x.ps.length x.c2) (.slice x.r3 x.cl.length x.c3) nS nS nS)) (t := 34) (by simp)).free 8
  obtain ⟨X2, hX2⟩ : ∃ X, X1.setCell ⟨Q, 8, none⟩ (.slice x.r4 k x.c4) = X := ⟨_, rfl⟩
  have N2 := hid (show Mem w X2 [(Q, (qv x (.slice x.r0 x.rm.length x.c0) (.slice x.r1 x.wk.length x.c1) (.slice x.r2 x.ps.length x.c2) (.slice x.r3 x.cl.length x.c3) (.slice x.r4 k x.c4) nS nS), 34), (Z, z17L, 34), (G, (pbc x), 34)] from hX2 ▸ N1.out.set HGw.out.2.2.1 HQn.out 8 (.slice x.r4 k x.c4))
  have gz := (N2.out.at_ (b := Z) (cs := z17L) (t := 34) (by simp)).free
  have f0 := gz 0
  have e0 := N2.out.cell (b := Q) (cs := (qv x (.slice x.r0 x.rm.length x.c0) (.slice x.r1 x.wk.length x.c1) (.slice x.r2 x.ps.length x.c2) (.slice x.r3 x.cl.length x.c3) (.slice x.r4 k x.c4) nS nS)) (t := 34) (by simp) (k := 0) rfl
  have z0 := N2.out.cell (b := Z) (cs := z17L) (t := 34) (by simp) (k := 0) rfl
  have f1 := gz 1
  have e1 := N2.out.cell (b := Q) (cs := (qv x (.slice x.r0 x.rm.length x.c0) (.slice x.r1 x.wk.length x.c1) (.slice x.r2 x.ps.length x.c2) (.slice x.r3 x.cl.length x.c3) (.slice x.r4 k x.c4) nS nS)) (t := 34) (by simp) (k := 1) rfl
  have z1 := N2.out.cell (b := Z) (cs := z17L) (t := 34) (by simp) (k := 1) rfl
  have f2 := gz 2
  have e2 := N2.out.cell (b := Q) (cs := (qv x (.slice x.r0 x.rm.length x.c0) (.slice x.r1 x.wk.length x.c1) (.slice x.r2 x.ps.length x.c2) (.slice x.r3 x.cl.length x.c3) (.slice x.r4 k x.c4) nS nS)) (t := 34) (by simp) (k := 2) rfl
  have z2 := N2.out.cell (b := Z) (cs := z17L) (t := 34) (by simp) (k := 2) rfl
  have f3 := gz 3
  have e3 := N2.out.cell (b := Q) (cs := (qv x (.slice x.r0 x.rm.length x.c0) (.slice x.r1 x.wk.length x.c1) (.slice x.r2 x.ps.length x.c2) (.slice x.r3 x.cl.length x.c3) (.slice x.r4 k x.c4) nS nS)) (t := 34) (by simp) (k := 3) rfl
  have z3 := N2.out.cell (b := Z) (cs := z17L) (t := 34) (by simp) (k := 3) rfl
  have f4 := gz 4
  have e4 := N2.out.cell (b := Q) (cs := (qv x (.slice x.r0 x.rm.length x.c0) (.slice x.r1 x.wk.length x.c1) (.slice x.r2 x.ps.length x.c2) (.slice x.r3 x.cl.length x.c3) (.slice x.r4 k x.c4) nS nS)) (t := 34) (by simp) (k := 4) rfl
  have z4 := N2.out.cell (b := Z) (cs := z17L) (t := 34) (by simp) (k := 4) rfl
  have f5 := gz 5
  have e5 := N2.out.cell (b := Q) (cs := (qv x (.slice x.r0 x.rm.length x.c0) (.slice x.r1 x.wk.length x.c1) (.slice x.r2 x.ps.length x.c2) (.slice x.r3 x.cl.length x.c3) (.slice x.r4 k x.c4) nS nS)) (t := 34) (by simp) (k := 5) rfl
  have z5 := N2.out.cell (b := Z) (cs := z17L) (t := 34) (by simp) (k := 5) rfl
  have f6 := gz 6
  have e6 := N2.out.cell (b := Q) (cs := (qv x (.slice x.r0 x.rm.length x.c0) (.slice x.r1 x.wk.length x.c1) (.slice x.r2 x.ps.length x.c2) (.slice x.r3 x.cl.length x.c3) (.slice x.r4 k x.c4) nS nS)) (t := 34) (by simp) (k := 6) rfl
  have z6 := N2.out.cell (b := Z) (cs := z17L) (t := 34) (by simp) (k := 6) rfl
  have f7 := gz 7
  have e7 := N2.out.cell (b := Q) (cs := (qv x (.slice x.r0 x.rm.length x.c0) (.slice x.r1 x.wk.length x.c1) (.slice x.r2 x.ps.length x.c2) (.slice x.r3 x.cl.length x.c3) (.slice x.r4 k x.c4) nS nS)) (t := 34) (by simp) (k := 7) rfl
  have z7 := N2.out.cell (b := Z) (cs := z17L) (t := 34) (by simp) (k := 7) rfl
  have f8 := gz 8
  have e8 := N2.out.cell (b := Q) (cs := (qv x (.slice x.r0 x.rm.length x.c0) (.slice x.r1 x.wk.length x.c1) (.slice x.r2 x.ps.length x.c2) (.slice x.r3 x.cl.length x.c3) (.slice x.r4 k x.c4) nS nS)) (t := 34) (by simp) (k := 8) rfl
  have z8 := N2.out.cell (b := Z) (cs := z17L) (t := 34) (by simp) (k := 8) rfl
  have f9 := gz 9
  have e9 := N2.out.cell (b := Q) (cs := (qv x (.slice x.r0 x.rm.length x.c0) (.slice x.r1 x.wk.length x.c1) (.slice x.r2 x.ps.length x.c2) (.slice x.r3 x.cl.length x.c3) (.slice x.r4 k x.c4) nS nS)) (t := 34) (by simp) (k := 9) rfl
  have z9 := N2.out.cell (b := Z) (cs := z17L) (t := 34) (by simp) (k := 9) rfl
  have f10 := gz 10
  have e10 := N2.out.cell (b := Q) (cs := (qv x (.slice x.r0 x.rm.length x.c0) (.slice x.r1 x.wk.length x.c1) (.slice x.r2 x.ps.length x.c2) (.slice x.r3 x.cl.length x.c3) (.slice x.r4 k x.c4) nS nS)) (t := 34) (by simp) (k := 10) rfl
  have z10 := N2.out.cell (b := Z) (cs := z17L) (t := 34) (by simp) (k := 10) rfl
  have f11 := gz 11
  have e11 := N2.out.cell (b := Q) (cs := (qv x (.slice x.r0 x.rm.length x.c0) (.slice x.r1 x.wk.length x.c1) (.slice x.r2 x.ps.length x.c2) (.slice x.r3 x.cl.length x.c3) (.slice x.r4 k x.c4) nS nS)) (t := 34) (by simp) (k := 11) rfl
  have z11 := N2.out.cell (b := Z) (cs := z17L) (t := 34) (by simp) (k := 11) rfl
  have f12 := gz 12
  have e12 := N2.out.cell (b := Q) (cs := (qv x (.slice x.r0 x.rm.length x.c0) (.slice x.r1 x.wk.length x.c1) (.slice x.r2 x.ps.length x.c2) (.slice x.r3 x.cl.length x.c3) (.slice x.r4 k x.c4) nS nS)) (t := 34) (by simp) (k := 12) rfl
  have z12 := N2.out.cell (b := Z) (cs := z17L) (t := 34) (by simp) (k := 12) rfl
  have f13 := gz 13
  have e13 := N2.out.cell (b := Q) (cs := (qv x (.slice x.r0 x.rm.length x.c0) (.slice x.r1 x.wk.length x.c1) (.slice x.r2 x.ps.length x.c2) (.slice x.r3 x.cl.length x.c3) (.slice x.r4 k x.c4) nS nS)) (t := 34) (by simp) (k := 13) rfl
  have z13 := N2.out.cell (b := Z) (cs := z17L) (t := 34) (by simp) (k := 13) rfl
  have f14 := gz 14
  have e14 := N2.out.cell (b := Q) (cs := (qv x (.slice x.r0 x.rm.length x.c0) (.slice x.r1 x.wk.length x.c1) (.slice x.r2 x.ps.length x.c2) (.slice x.r3 x.cl.length x.c3) (.slice x.r4 k x.c4) nS nS)) (t := 34) (by simp) (k := 14) rfl
  have z14 := N2.out.cell (b := Z) (cs := z17L) (t := 34) (by simp) (k := 14) rfl
  clear gz
  have MZ := hid (N2.out.sub (l' := [(Z, z17L, 34), (Q, (qv x (.slice x.r0 x.rm.length x.c0) (.slice x.r1 x.wk.length x.c1) (.slice x.r2 x.ps.length x.c2) (.slice x.r3 x.cl.length x.c3) (.slice x.r4 k x.c4) nS nS), 34), (G, (pbc x), 34)]) (by simp))
  have HGZ := hid (show ∀ p ∈ ([(Q, (qv x (.slice x.r0 x.rm.length x.c0) (.slice x.r1 x.wk.length x.c1) (.slice x.r2 x.ps.length x.c2) (.slice x.r3 x.cl.length x.c3) (.slice x.r4 k x.c4) nS nS), 34), (G, (pbc x), 34)] : Obs), p.1 ≠ Z from by
    intro p hp
    simp only [List.mem_cons, List.not_mem_nil, or_false] at hp
    rcases hp with rfl | rfl
    · exact HGw.out.2.2.2.2.1
    · exact HGw.out.2.2.2.1)
  obtain ⟨R, hR⟩ : ∃ R, (((((((((((((((X2.setCell ⟨Z, 0, none⟩ (txt x.n)).setCell ⟨Z, 1, none⟩ (.int .i64 x.g.w)).setCell ⟨Z, 2, none⟩ (.int .i64 x.g.d)).setCell ⟨Z, 3, none⟩ (.int .i64 x.g.s)).setCell ⟨Z, 4, none⟩ (.slice x.r0 x.rm.length x.c0)).setCell ⟨Z, 5, none⟩ (.slice x.r1 x.wk.length x.c1)).setCell ⟨Z, 6, none⟩ (.slice x.r2 x.ps.length x.c2)).setCell ⟨Z, 7, none⟩ (.slice x.r3 x.cl.length x.c3)).setCell ⟨Z, 8, none⟩ (.slice x.r4 k x.c4)).setCell ⟨Z, 9, none⟩ (.slice none 0 0)).setCell ⟨Z, 10, none⟩ (.slice none 0 0)).setCell ⟨Z, 11, none⟩ (.int .i64 0)).setCell ⟨Z, 12, none⟩ (.int .i64 0)).setCell ⟨Z, 13, none⟩ (.int .i64 0)).setCell ⟨Z, 14, none⟩ (.int .i64 0)) = R := ⟨_, rfl⟩
  have MR := hid (show Mem w R [(Z, (qv x (.slice x.r0 x.rm.length x.c0) (.slice x.r1 x.wk.length x.c1) (.slice x.r2 x.ps.length x.c2) (.slice x.r3 x.cl.length x.c3) (.slice x.r4 k x.c4) nS nS), 34), (Q, (qv x (.slice x.r0 x.rm.length x.c0) (.slice x.r1 x.wk.length x.c1) (.slice x.r2 x.ps.length x.c2) (.slice x.r3 x.cl.length x.c3) (.slice x.r4 k x.c4) nS nS), 34), (G, (pbc x), 34)] from hR ▸ (((((((((((((((MZ.out.set HGw.out.2.1 HGZ.out 0 (txt x.n)).set HGw.out.2.1 HGZ.out 1 (.int .i64 x.g.w)).set HGw.out.2.1 HGZ.out 2 (.int .i64 x.g.d)).set HGw.out.2.1 HGZ.out 3 (.int .i64 x.g.s)).set HGw.out.2.1 HGZ.out 4 (.slice x.r0 x.rm.length x.c0)).set HGw.out.2.1 HGZ.out 5 (.slice x.r1 x.wk.length x.c1)).set HGw.out.2.1 HGZ.out 6 (.slice x.r2 x.ps.length x.c2)).set HGw.out.2.1 HGZ.out 7 (.slice x.r3 x.cl.length x.c3)).set HGw.out.2.1 HGZ.out 8 (.slice x.r4 k x.c4)).set HGw.out.2.1 HGZ.out 9 (.slice none 0 0)).set HGw.out.2.1 HGZ.out 10 (.slice none 0 0)).set HGw.out.2.1 HGZ.out 11 (.int .i64 0)).set HGw.out.2.1 HGZ.out 12 (.int .i64 0)).set HGw.out.2.1 HGZ.out 13 (.int .i64 0)).set HGw.out.2.1 HGZ.out 14 (.int .i64 0)))
  have r0 := MR.out.cell (b := Z) (cs := (qv x (.slice x.r0 x.rm.length x.c0) (.slice x.r1 x.wk.length x.c1) (.slice x.r2 x.ps.length x.c2) (.slice x.r3 x.cl.length x.c3) (.slice x.r4 k x.c4) nS nS)) (t := 34) (by simp) (k := 0) rfl
  have r1 := MR.out.cell (b := Z) (cs := (qv x (.slice x.r0 x.rm.length x.c0) (.slice x.r1 x.wk.length x.c1) (.slice x.r2 x.ps.length x.c2) (.slice x.r3 x.cl.length x.c3) (.slice x.r4 k x.c4) nS nS)) (t := 34) (by simp) (k := 1) rfl
  have r2 := MR.out.cell (b := Z) (cs := (qv x (.slice x.r0 x.rm.length x.c0) (.slice x.r1 x.wk.length x.c1) (.slice x.r2 x.ps.length x.c2) (.slice x.r3 x.cl.length x.c3) (.slice x.r4 k x.c4) nS nS)) (t := 34) (by simp) (k := 2) rfl
  have r3 := MR.out.cell (b := Z) (cs := (qv x (.slice x.r0 x.rm.length x.c0) (.slice x.r1 x.wk.length x.c1) (.slice x.r2 x.ps.length x.c2) (.slice x.r3 x.cl.length x.c3) (.slice x.r4 k x.c4) nS nS)) (t := 34) (by simp) (k := 3) rfl
  have r4 := MR.out.cell (b := Z) (cs := (qv x (.slice x.r0 x.rm.length x.c0) (.slice x.r1 x.wk.length x.c1) (.slice x.r2 x.ps.length x.c2) (.slice x.r3 x.cl.length x.c3) (.slice x.r4 k x.c4) nS nS)) (t := 34) (by simp) (k := 4) rfl
  have r5 := MR.out.cell (b := Z) (cs := (qv x (.slice x.r0 x.rm.length x.c0) (.slice x.r1 x.wk.length x.c1) (.slice x.r2 x.ps.length x.c2) (.slice x.r3 x.cl.length x.c3) (.slice x.r4 k x.c4) nS nS)) (t := 34) (by simp) (k := 5) rfl
  have r6 := MR.out.cell (b := Z) (cs := (qv x (.slice x.r0 x.rm.length x.c0) (.slice x.r1 x.wk.length x.c1) (.slice x.r2 x.ps.length x.c2) (.slice x.r3 x.cl.length x.c3) (.slice x.r4 k x.c4) nS nS)) (t := 34) (by simp) (k := 6) rfl
  have r7 := MR.out.cell (b := Z) (cs := (qv x (.slice x.r0 x.rm.length x.c0) (.slice x.r1 x.wk.length x.c1) (.slice x.r2 x.ps.length x.c2) (.slice x.r3 x.cl.length x.c3) (.slice x.r4 k x.c4) nS nS)) (t := 34) (by simp) (k := 7) rfl
  have r8 := MR.out.cell (b := Z) (cs := (qv x (.slice x.r0 x.rm.length x.c0) (.slice x.r1 x.wk.length x.c1) (.slice x.r2 x.ps.length x.c2) (.slice x.r3 x.cl.length x.c3) (.slice x.r4 k x.c4) nS nS)) (t := 34) (by simp) (k := 8) rfl
  have r9 := MR.out.cell (b := Z) (cs := (qv x (.slice x.r0 x.rm.length x.c0) (.slice x.r1 x.wk.length x.c1) (.slice x.r2 x.ps.length x.c2) (.slice x.r3 x.cl.length x.c3) (.slice x.r4 k x.c4) nS nS)) (t := 34) (by simp) (k := 9) rfl
  have r10 := MR.out.cell (b := Z) (cs := (qv x (.slice x.r0 x.rm.length x.c0) (.slice x.r1 x.wk.length x.c1) (.slice x.r2 x.ps.length x.c2) (.slice x.r3 x.cl.length x.c3) (.slice x.r4 k x.c4) nS nS)) (t := 34) (by simp) (k := 10) rfl
  have r11 := MR.out.cell (b := Z) (cs := (qv x (.slice x.r0 x.rm.length x.c0) (.slice x.r1 x.wk.length x.c1) (.slice x.r2 x.ps.length x.c2) (.slice x.r3 x.cl.length x.c3) (.slice x.r4 k x.c4) nS nS)) (t := 34) (by simp) (k := 11) rfl
  have r12 := MR.out.cell (b := Z) (cs := (qv x (.slice x.r0 x.rm.length x.c0) (.slice x.r1 x.wk.length x.c1) (.slice x.r2 x.ps.length x.c2) (.slice x.r3 x.cl.length x.c3) (.slice x.r4 k x.c4) nS nS)) (t := 34) (by simp) (k := 12) rfl
  have r13 := MR.out.cell (b := Z) (cs := (qv x (.slice x.r0 x.rm.length x.c0) (.slice x.r1 x.wk.length x.c1) (.slice x.r2 x.ps.length x.c2) (.slice x.r3 x.cl.length x.c3) (.slice x.r4 k x.c4) nS nS)) (t := 34) (by simp) (k := 13) rfl
  have r14 := MR.out.cell (b := Z) (cs := (qv x (.slice x.r0 x.rm.length x.c0) (.slice x.r1 x.wk.length x.c1) (.slice x.r2 x.ps.length x.c2) (.slice x.r3 x.cl.length x.c3) (.slice x.r4 k x.c4) nS nS)) (t := 34) (by simp) (k := 14) rfl
  clear MZ HGZ HQn
  go_wp2_with fail
  have hf := HF.out
  unfold PbFew at hf
  exact bodyPost_ret (v := .tuple #[.agg #[txt x.n, .int .i64 x.g.w, .int .i64 x.g.d, .int .i64 x.g.s, .slice x.r0 x.rm.length x.c0, .slice x.r1 x.wk.length x.c1, .slice x.r2 x.ps.length x.c2, .slice x.r3 x.cl.length x.c3, .slice x.r4 k x.c4, .slice none 0 0, .slice none 0 0, .int .i64 0, .int .i64 0, .int .i64 0, .int .i64 0], .bool true]) (by simp [results, Tryz.results37, go_sem, r0, r1, r2, r3, r4, r5, r6, r7, r8, r9, r10, r11, r12, r13, r14]) rfl ⟨⟨x.n, x.g, x.rm, x.wk, x.ps, x.cl, (x.cs.take k), [], [], 0, 0, 0, 0, x.r0, x.c0, x.r1, x.c1, x.r2, x.c2, x.r3, x.c3, x.r4, x.c4, none, 0, none, 0⟩, by unfold pbv; simp only [List.length_take, List.length_nil, Nat.min_eq_left hk], in14 (HI.out.next MR.out.2) k, by unfold PbA.p c14; simp only [List.map_take, List.map_nil], by unfold PbFew; simp only [List.length_take, List.length_nil]; omega, MR.out.2⟩
end Go.Proofs.YtgmgccepmalahaaGreat
