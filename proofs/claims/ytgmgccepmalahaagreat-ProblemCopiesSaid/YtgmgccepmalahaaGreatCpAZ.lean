/- What the proof of ProblemCopies stands on, part 26. -/
import Derived.Test.YtgmgccepmalahaaGreatCpAY
namespace Go.Proofs.YtgmgccepmalahaaGreat
open Go.RowKit
open Whn (Gr Wh)
set_option linter.unusedVariables false
set_option maxRecDepth 40000 in
set_option maxHeartbeats 32000000 in
theorem r17_Copy (x : PbA) (hf : PbFits x) (hz : PbBig x) (w : World) (h : PbIn w x) : Calls Tryz.prog 17 #[pbv x] w (PbCopied x w) := by
 have HFt := hid hf
 have HZ := hid hz
 have hr : reachBytes ≤ 140737488355328 := by decide
 obtain ⟨f0, f1, f2, f3, f4, f5, f6⟩ := hf
 have HWk := hid (fun X (hX : Below w.heap.size w X) => r17_table x.wk x.r1 x.c1 (by omega) (fun l hl => Nat.le_trans (hz.wk l hl) hr) X (Rows2.next h.wk hX))
 have HCrm := hid (fun (y : RmA) (hy : y ∈ x.rm) X (hX : Below w.heap.size w X) => (r17_whens y.a y.c y.r.l (Nat.le_trans (hz.rm y hy).2 hr) X ((h.rmI y hy).next hX).2.1).mono fun _ _ h => h.cp)
 have HCps := hid (fun (y : PsA) (hy : y ∈ x.ps) X (hX : Below w.heap.size w X) => (r17_whens y.a y.c y.r.l (Nat.le_trans (hz.ps y hy).2 hr) X ((h.psI y hy).next hX).2.1).mono fun _ _ h => h.cp)
 have HCcl := hid (fun (y : ClA) (hy : y ∈ x.cl) X (hX : Below w.heap.size w X) => (r17_ints y.r.a y.r.ac y.x.p (Nat.le_trans (hz.cl y hy).1 hr) X ((h.clI y hy).next hX).2.1.1).mono fun _ _ h => h.cp)
 have HCst := hid (fun (y : StA) (hy : y ∈ x.st) X (hX : Below w.heap.size w X) => (r17_ints y.a y.c y.x.l (Nat.le_trans (hz.st y hy) hr) X ((h.stI y hy).next hX).2.1).mono fun _ _ h => h.cp)
 have HCrl := hid (fun (y : RlA) (hy : y ∈ x.rl) X (hX : Below w.heap.size w X) => (r17_ints y.r y.c y.x.l (Nat.le_trans (hz.rl y hy) hr) X ((h.rlI y hy).next hX).2.1).mono fun _ _ h => h.cp)
 have HBcl := hid (fun (y : ClA) (hy : y ∈ x.cl) => show y.x.t.length * 32 ≤ 140737488355328 ∧ y.x.l.length * 16 ≤ 140737488355328 from ⟨Nat.le_trans (hz.cl y hy).2.1 hr, Nat.le_trans (hz.cl y hy).2.2 hr⟩)
 have HBcs := hid (fun (y : CsA) (hy : y ∈ x.cs) => show y.x.ws.length * 24 ≤ 140737488355328 ∧ ∀ ls ∈ y.x.ws, ls.length * 24 ≤ 140737488355328 ∧ ∀ l ∈ ls, l.length * 8 ≤ 140737488355328 from ⟨Nat.le_trans (hz.cs y hy).1 hr, fun ls hl => ⟨Nat.le_trans ((hz.cs y hy).2 ls hl).1 hr, fun l hll => Nat.le_trans (((hz.cs y hy).2 ls hl).2 l hll) hr⟩⟩)
 have HI := hid h
 obtain ⟨G, W0, hG, hW0, K0, hb0⟩ := (Mem.nil w).one (pbc x) 34
 obtain ⟨D, W1, hD, hW1, K, hb1⟩ := K0.out.one [.string ⟨#[]⟩, .int .i64 0, .int .i64 0, .int .i64 0, .slice none 0 0, .slice none 0 0, .slice none 0 0, .slice none 0 0, .slice none 0 0, .slice none 0 0, .slice none 0 0, .int .i64 0, .int .i64 0, .int .i64 0, .int .i64 0] 34
 have HGD := hid (show w.heap.size ≤ G ∧ w.heap.size ≤ D ∧ G < D from by
  have h1 := (K0.out.at_ (b := G) (cs := pbc x) (t := 34) (by simp)).lt
  omega)
 clear h hz hb0 hb1 K0 hr
 go_enter Tryz.func17, Tryz.ntmps17
 go_upto_region 1 with fail
 go_cut [3] (fun s wx => ∃ Q A1 c1, s = .pointer (some ⟨Q, 0, none⟩) ∧ Hid (w.heap.size ≤ Q ∧ Q ≠ G ∧ Q ≠ D) ∧ Hid (Mem w wx [(Q, [txt x.n, .int .i64 x.g.w, .int .i64 x.g.d, .int .i64 x.g.s, .slice none 0 0, .slice A1 x.wk.length c1, .slice none 0 0, .slice none 0 0, .slice none 0 0, .slice none 0 0, .slice none 0 0, .int .i64 x.w0, .int .i64 x.w1, .int .i64 x.w2, .int .i64 x.w3], 34), (D, [.string ⟨#[]⟩, .int .i64 0, .int .i64 0, .int .i64 0, .slice none 0 0, .slice none 0 0, .slice none 0 0, .slice none 0 0, .slice none 0 0, .slice none 0 0, .slice none 0 0, .int .i64 0, .int .i64 0, .int .i64 0, .int .i64 0], 34), (G, pbc x, 34)]) ∧ Hid (I2Q x.wk w.heap.size A1 x.wk.length c1 wx))
 case first =>
  refine wp_region_held_drew (S := fun X => Mem w X [(D, [.string ⟨#[]⟩, .int .i64 0, .int .i64 0, .int .i64 0, .slice none 0 0, .slice none 0 0, .slice none 0 0, .slice none 0 0, .slice none 0 0, .slice none 0 0, .slice none 0 0, .int .i64 0, .int .i64 0, .int .i64 0, .int .i64 0], 34), (G, pbc x, 34)]) (by kernel_rfl) K.out.drew (fun hHeld => ?_)
  refine tkD 0 15 (.pointer (some ⟨G, 0, none⟩)) rfl rfl hHeld ?_
  simp only [pt, List.set]
  refine tkH 1 16 (txt x.n) rfl rfl (fun X hX => by obtain ⟨p0, p1, p2, p3, p4, p5, p6, p7, p8, p9, p10, p11, p12, p13, p14⟩ := hX.pb (B := G) (x := x) (t := 34) (by simp); clear hX; go_simp) hHeld ?_
  simp only [pt, List.set]
  refine tkD 2 17 (.pointer (some ⟨G, 1, none⟩)) rfl rfl hHeld ?_
  simp only [pt, List.set]
  refine tkH 3 18 (.agg #[.int .i64 x.g.w, .int .i64 x.g.d, .int .i64 x.g.s]) rfl rfl (fun X hX => by obtain ⟨p0, p1, p2, p3, p4, p5, p6, p7, p8, p9, p10, p11, p12, p13, p14⟩ := hX.pb (B := G) (x := x) (t := 34) (by simp); clear hX; go_simp) hHeld ?_
  simp only [pt, List.set]
  refine tkD 4 19 (.pointer (some ⟨G, 11, none⟩)) rfl rfl hHeld ?_
  simp only [pt, List.set]
  refine tkH 5 20 (.agg #[.int .i64 x.w0, .int .i64 x.w1, .int .i64 x.w2, .int .i64 x.w3]) rfl rfl (fun X hX => by obtain ⟨p0, p1, p2, p3, p4, p5, p6, p7, p8, p9, p10, p11, p12, p13, p14⟩ := hX.pb (B := G) (x := x) (t := 34) (by simp); clear hX; go_simp) hHeld ?_
  simp only [pt, List.set]
  refine tkD 6 21 (.pointer (some ⟨G, 5, none⟩)) rfl rfl hHeld ?_
  simp only [pt, List.set]
  refine tkH 7 22 (.slice x.r1 x.wk.length x.c1) rfl rfl (fun X hX => by obtain ⟨p0, p1, p2, p3, p4, p5, p6, p7, p8, p9, p10, p11, p12, p13, p14⟩ := hX.pb (B := G) (x := x) (t := 34) (by simp); clear hX; go_simp) hHeld ?_
  simp only [pt, List.set]
  refine wpAnyH_ready (rs := [8, 10]) (by kernel_rfl) (by simp) ?_
  refine AllReadyH.cons rfl (fun KK hK => ?_) (AllReadyH.cons rfl (fun KK hK => ?_) AllReadyH.nil)
  · simp only [List.getElem_toArray, List.getElem_cons_succ, List.getElem_cons_zero]
    go_simp
    refine (HWk.out _ K.out.drew.2).mono ?_
    rintro e Y ⟨A1, n1, c1, rfl, hq, bz⟩
    have KY := hid (K.out.drew.next bz)
    obtain rfl := (I2Q.read hq).1
    have HQ1 := hid ((I2Q_ok x.wk).low _ _ _ _ _ _ hq K.out.drew.2.size)
    clear hq bz
    refine hK.out _ _ KY.out (fun hHeld => ?_)
    clear hK KK
    try simp only [pt, List.set]
    refine tkD 9 24 (.agg #[txt x.n, .int .i64 x.g.w, .int .i64 x.g.d, .int .i64 x.g.s, .slice none 0 0, .slice A1 x.wk.length c1, .slice none 0 0, .slice none 0 0, .slice none 0 0, .slice none 0 0, .slice none 0 0, .int .i64 x.w0, .int .i64 x.w1, .int .i64 x.w2, .int .i64 x.w3]) rfl rfl hHeld ?_
    simp only [pt, List.set]
    obtain ⟨Q, U, hQ, hU, KU, hbU⟩ := KY.out.one [.string ⟨#[]⟩, .int .i64 0, .int .i64 0, .int .i64 0, .slice none 0 0, .slice none 0 0, .slice none 0 0, .slice none 0 0, .slice none 0 0, .slice none 0 0, .slice none 0 0, .int .i64 0, .int .i64 0, .int .i64 0, .int .i64 0] 34
    have HQx := hid (show w.heap.size ≤ Q ∧ Q ≠ G ∧ Q ≠ D from by
     have h1 := (KY.out.at_ (b := G) (cs := pbc x) (t := 34) (by simp)).lt
     have h2 := (KY.out.at_ (b := D) (cs := [.string ⟨#[]⟩, .int .i64 0, .int .i64 0, .int .i64 0, .slice none 0 0, .slice none 0 0, .slice none 0 0, .slice none 0 0, .slice none 0 0, .slice none 0 0, .slice none 0 0, .int .i64 0, .int .i64 0, .int .i64 0, .int .i64 0]) (t := 34) (by simp)).lt
     have h3 := KY.out.2.size
     omega)
    have HQ2 := hid ((I2Q_ok x.wk).keep _ _ _ _ _ _ HQ1.out (Abv.of hbU))
    refine wpAnyH_ready (rs := [10]) (by kernel_rfl) (by simp) ?_
    refine AllReadyH.cons rfl (fun KK hK => ?_) AllReadyH.nil
    simp only [List.getElem_toArray, List.getElem_cons_succ, List.getElem_cons_zero]
    go_simp
    have KS := hid (KU.out.sub (l' := [(D, [.string ⟨#[]⟩, .int .i64 0, .int .i64 0, .int .i64 0, .slice none 0 0, .slice none 0 0, .slice none 0 0, .slice none 0 0, .slice none 0 0, .slice none 0 0, .slice none 0 0, .int .i64 0, .int .i64 0, .int .i64 0, .int .i64 0], 34), (G, pbc x, 34)]) (by simp))
    refine hK.out _ _ KS.out (fun hHeld => ?_)
    clear hK KK
    try simp only [pt, List.set]
    have gz := (KU.out.at_ (b := Q) (cs := [.string ⟨#[]⟩, .int .i64 0, .int .i64 0, .int .i64 0, .slice none 0 0, .slice none 0 0, .slice none 0 0, .slice none 0 0, .slice none 0 0, .slice none 0 0, .slice none 0 0, .int .i64 0, .int .i64 0, .int .i64 0, .int .i64 0]) (t := 34) (by simp)).free
    have f0 := gz 0
    have z0 := KU.out.cell (b := Q) (cs := [.string ⟨#[]⟩, .int .i64 0, .int .i64 0, .int .i64 0, .slice none 0 0, .slice none 0 0, .slice none 0 0, .slice none 0 0, .slice none 0 0, .slice none 0 0, .slice none 0 0, .int .i64 0, .int .i64 0, .int .i64 0, .int .i64 0]) (t := 34) (by simp) (k := 0) rfl
    have f1 := gz 1
    have z1 := KU.out.cell (b := Q) (cs := [.string ⟨#[]⟩, .int .i64 0, .int .i64 0, .int .i64 0, .slice none 0 0, .slice none 0 0, .slice none 0 0, .slice none 0 0, .slice none 0 0, .slice none 0 0, .slice none 0 0, .int .i64 0, .int .i64 0, .int .i64 0, .int .i64 0]) (t := 34) (by simp) (k := 1) rfl
    have f2 := gz 2
    have z2 := KU.out.cell (b := Q) (cs := [.string ⟨#[]⟩, .int .i64 0, .int .i64 0, .int .i64 0, .slice none 0 0, .slice none 0 0, .slice none 0 0, .slice none 0 0, .slice none 0 0, .slice none 0 0, .slice none 0 0, .int .i64 0, .int .i64 0, .int .i64 0, .int .i64 0]) (t := 34) (by simp) (k := 2) rfl
    have f3 := gz 3
    have z3 := KU.out.cell (b := Q) (cs := [.string ⟨#[]⟩, .int .i64 0, .int .i64 0, .int .i64 0, .slice none 0 0, .slice none 0 0, .slice none 0 0, .slice none 0 0, .slice none 0 0, .slice none 0 0, .slice none 0 0, .int .i64 0, .int .i64 0, .int .i64 0, .int .i64 0]) (t := 34) (by simp) (k := 3) rfl
    have f4 := gz 4
    have z4 := KU.out.cell (b := Q) (cs := [.string ⟨#[]⟩, .int .i64 0, .int .i64 0, .int .i64 0, .slice none 0 0, .slice none 0 0, .slice none 0 0, .slice none 0 0, .slice none 0 0, .slice none 0 0, .slice none 0 0, .int .i64 0, .int .i64 0, .int .i64 0, .int .i64 0]) (t := 34) (by simp) (k := 4) rfl
    have f5 := gz 5
    have z5 := KU.out.cell (b := Q) (cs := [.string ⟨#[]⟩, .int .i64 0, .int .i64 0, .int .i64 0, .slice none 0 0, .slice none 0 0, .slice none 0 0, .slice none 0 0, .slice none 0 0, .slice none 0 0, .slice none 0 0, .int .i64 0, .int .i64 0, .int .i64 0, .int .i64 0]) (t := 34) (by simp) (k := 5) rfl
    have f6 := gz 6
    have z6 := KU.out.cell (b := Q) (cs := [.string ⟨#[]⟩, .int .i64 0, .int .i64 0, .int .i64 0, .slice none 0 0, .slice none 0 0, .slice none 0 0, .slice none 0 0, .slice none 0 0, .slice none 0 0, .slice none 0 0, .int .i64 0, .int .i64 0, .int .i64 0, .int .i64 0]) (t := 34) (by simp) (k := 6) rfl
    have f7 := gz 7
    have z7 := KU.out.cell (b := Q) (cs := [.string ⟨#[]⟩, .int .i64 0, .int .i64 0, .int .i64 0, .slice none 0 0, .slice none 0 0, .slice none 0 0, .slice none 0 0, .slice none 0 0, .slice none 0 0, .slice none 0 0, .int .i64 0, .int .i64 0, .int .i64 0, .int .i64 0]) (t := 34) (by simp) (k := 7) rfl
    have f8 := gz 8
    have z8 := KU.out.cell (b := Q) (cs := [.string ⟨#[]⟩, .int .i64 0, .int .i64 0, .int .i64 0, .slice none 0 0, .slice none 0 0, .slice none 0 0, .slice none 0 0, .slice none 0 0, .slice none 0 0, .slice none 0 0, .int .i64 0, .int .i64 0, .int .i64 0, .int .i64 0]) (t := 34) (by simp) (k := 8) rfl
    have f9 := gz 9
    have z9 := KU.out.cell (b := Q) (cs := [.string ⟨#[]⟩, .int .i64 0, .int .i64 0, .int .i64 0, .slice none 0 0, .slice none 0 0, .slice none 0 0, .slice none 0 0, .slice none 0 0, .slice none 0 0, .slice none 0 0, .int .i64 0, .int .i64 0, .int .i64 0, .int .i64 0]) (t := 34) (by simp) (k := 9) rfl
    have f10 := gz 10
    have z10 := KU.out.cell (b := Q) (cs := [.string ⟨#[]⟩, .int .i64 0, .int .i64 0, .int .i64 0, .slice none 0 0, .slice none 0 0, .slice none 0 0, .slice none 0 0, .slice none 0 0, .slice none 0 0, .slice none 0 0, .int .i64 0, .int .i64 0, .int .i64 0, .int .i64 0]) (t := 34) (by simp) (k := 10) rfl
    have f11 := gz 11
    have z11 := KU.out.cell (b := Q) (cs := [.string ⟨#[]⟩, .int .i64 0, .int .i64 0, .int .i64 0, .slice none 0 0, .slice none 0 0, .slice none 0 0, .slice none 0 0, .slice none 0 0, .slice none 0 0, .slice none 0 0, .int .i64 0, .int .i64 0, .int .i64 0, .int .i64 0]) (t := 34) (by simp) (k := 11) rfl
    have f12 := gz 12
    have z12 := KU.out.cell (b := Q) (cs := [.string ⟨#[]⟩, .int .i64 0, .int .i64 0, .int .i64 0, .slice none 0 0, .slice none 0 0, .slice none 0 0, .slice none 0 0, .slice none 0 0, .slice none 0 0, .slice none 0 0, .int .i64 0, .int .i64 0, .int .i64 0, .int .i64 0]) (t := 34) (by simp) (k := 12) rfl
    have f13 := gz 13
    have z13 := KU.out.cell (b := Q) (cs := [.string ⟨#[]⟩, .int .i64 0, .int .i64 0, .int .i64 0, .slice none 0 0, .slice none 0 0, .slice none 0 0, .slice none 0 0, .slice none 0 0, .slice none 0 0, .slice none 0 0, .int .i64 0, .int .i64 0, .int .i64 0, .int .i64 0]) (t := 34) (by simp) (k := 13) rfl
    have f14 := gz 14
    have z14 := KU.out.cell (b := Q) (cs := [.string ⟨#[]⟩, .int .i64 0, .int .i64 0, .int .i64 0, .slice none 0 0, .slice none 0 0, .slice none 0 0, .slice none 0 0, .slice none 0 0, .slice none 0 0, .slice none 0 0, .int .i64 0, .int .i64 0, .int .i64 0, .int .i64 0]) (t := 34) (by simp) (k := 14) rfl
    clear gz
    obtain ⟨R, hR⟩ : ∃ R, (((((((((((((((U.setCell ⟨Q, 0, none⟩ (txt x.n)).setCell ⟨Q, 1, none⟩ (.int .i64 x.g.w)).setCell ⟨Q, 2, none⟩ (.int .i64 x.g.d)).setCell ⟨Q, 3, none⟩ (.int .i64 x.g.s)).setCell ⟨Q, 4, none⟩ (.slice none 0 0)).setCell ⟨Q, 5, none⟩ (.slice A1 x.wk.length c1)).setCell ⟨Q, 6, none⟩ (.slice none 0 0)).setCell ⟨Q, 7, none⟩ (.slice none 0 0)).setCell ⟨Q, 8, none⟩ (.slice none 0 0)).setCell ⟨Q, 9, none⟩ (.slice none 0 0)).setCell ⟨Q, 10, none⟩ (.slice none 0 0)).setCell ⟨Q, 11, none⟩ (.int .i64 x.w0)).setCell ⟨Q, 12, none⟩ (.int .i64 x.w1)).setCell ⟨Q, 13, none⟩ (.int .i64 x.w2)).setCell ⟨Q, 14, none⟩ (.int .i64 x.w3)) = R := ⟨_, rfl⟩
    have HQn := HQx
    have HNE := hid (show ∀ p ∈ ([(D, [.string ⟨#[]⟩, .int .i64 0, .int .i64 0, .int .i64 0, .slice none 0 0, .slice none 0 0, .slice none 0 0, .slice none 0 0, .slice none 0 0, .slice none 0 0, .slice none 0 0, .int .i64 0, .int .i64 0, .int .i64 0, .int .i64 0], 34), (G, pbc x, 34)] : Obs), p.1 ≠ Q from by simp only [List.mem_cons, List.not_mem_nil, or_false]; rintro p (rfl | rfl) <;> first | exact fun e => HQn.out.2.2 e.symm | exact fun e => HQn.out.2.1 e.symm)
    have KR := hid (show Mem w R [(Q, [txt x.n, .int .i64 x.g.w, .int .i64 x.g.d, .int .i64 x.g.s, .slice none 0 0, .slice A1 x.wk.length c1, .slice none 0 0, .slice none 0 0, .slice none 0 0, .slice none 0 0, .slice none 0 0, .int .i64 x.w0, .int .i64 x.w1, .int .i64 x.w2, .int .i64 x.w3], 34), (D, [.string ⟨#[]⟩, .int .i64 0, .int .i64 0, .int .i64 0, .slice none 0 0, .slice none 0 0, .slice none 0 0, .slice none 0 0, .slice none 0 0, .slice none 0 0, .slice none 0 0, .int .i64 0, .int .i64 0, .int .i64 0, .int .i64 0], 34), (G, pbc x, 34)] from hR ▸ (((((((((((((((KU.out.set HQn.out.1 HNE.out 0 (txt x.n)).set HQn.out.1 HNE.out 1 (.int .i64 x.g.w)).set HQn.out.1 HNE.out 2 (.int .i64 x.g.d)).set HQn.out.1 HNE.out 3 (.int .i64 x.g.s)).set HQn.out.1 HNE.out 4 (.slice none 0 0)).set HQn.out.1 HNE.out 5 (.slice A1 x.wk.length c1)).set HQn.out.1 HNE.out 6 (.slice none 0 0)).set HQn.out.1 HNE.out 7 (.slice none 0 0)).set HQn.out.1 HNE.out 8 (.slice none 0 0)).set HQn.out.1 HNE.out 9 (.slice none 0 0)).set HQn.out.1 HNE.out 10 (.slice none 0 0)).set HQn.out.1 HNE.out 11 (.int .i64 x.w0)).set HQn.out.1 HNE.out 12 (.int .i64 x.w1)).set HQn.out.1 HNE.out 13 (.int .i64 x.w2)).set HQn.out.1 HNE.out 14 (.int .i64 x.w3)))
    have HRow := hid (show I2Q x.wk w.heap.size A1 x.wk.length c1 R from RowQ.abt (t := 34) (by decide) (OwE_t (by decide)) HQ2.out (hR ▸ (((((((((((((((AbT.set _ ((KU.out).at_ (List.mem_cons_self ..)) 0 (txt x.n)).trans (AbT.set _ ((KU.out.set HQn.out.1 HNE.out 0 (txt x.n)).at_ (List.mem_cons_self ..)) 1 (.int .i64 x.g.w))).trans (AbT.set _ (((KU.out.set HQn.out.1 HNE.out 0 (txt x.n)).set HQn.out.1 HNE.out 1 (.int .i64 x.g.w)).at_ (List.mem_cons_self ..)) 2 (.int .i64 x.g.d))).trans (AbT.set _ ((((KU.out.set HQn.out.1 HNE.out 0 (txt x.n)).set HQn.out.1 HNE.out 1 (.int .i64 x.g.w)).set HQn.out.1 HNE.out 2 (.int .i64 x.g.d)).at_ (List.mem_cons_self ..)) 3 (.int .i64 x.g.s))).trans (AbT.set _ (((((KU.out.set HQn.out.1 HNE.out 0 (txt x.n)).set HQn.out.1 HNE.out 1 (.int .i64 x.g.w)).set HQn.out.1 HNE.out 2 (.int .i64 x.g.d)).set HQn.out.1 HNE.out 3 (.int .i64 x.g.s)).at_ (List.mem_cons_self ..)) 4 (.slice none 0 0))).trans (AbT.set _ ((((((KU.out.set HQn.out.1 HNE.out 0 (txt x.n)).set HQn.out.1 HNE.out 1 (.int .i64 x.g.w)).set HQn.out.1 HNE.out 2 (.int .i64 x.g.d)).set HQn.out.1 HNE.out 3 (.int .i64 x.g.s)).set HQn.out.1 HNE.out 4 (.slice none 0 0)).at_ (List.mem_cons_self ..)) 5 (.slice A1 x.wk.length c1))).trans (AbT.set _ (((((((KU.out.set HQn.out.1 HNE.out 0 (txt x.n)).set HQn.out.1 HNE.out 1 (.int .i64 x.g.w)).set HQn.out.1 HNE.out 2 (.int .i64 x.g.d)).set HQn.out.1 HNE.out 3 (.int .i64 x.g.s)).set HQn.out.1 HNE.out 4 (.slice none 0 0)).set HQn.out.1 HNE.out 5 (.slice A1 x.wk.length c1)).at_ (List.mem_cons_self ..)) 6 (.slice none 0 0))).trans (AbT.set _ ((((((((KU.out.set HQn.out.1 HNE.out 0 (txt x.n)).set HQn.out.1 HNE.out 1 (.int .i64 x.g.w)).set HQn.out.1 HNE.out 2 (.int .i64 x.g.d)).set HQn.out.1 HNE.out 3 (.int .i64 x.g.s)).set HQn.out.1 HNE.out 4 (.slice none 0 0)).set HQn.out.1 HNE.out 5 (.slice A1 x.wk.length c1)).set HQn.out.1 HNE.out 6 (.slice none 0 0)).at_ (List.mem_cons_self ..)) 7 (.slice none 0 0))).trans (AbT.set _ (((((((((KU.out.set HQn.out.1 HNE.out 0 (txt x.n)).set HQn.out.1 HNE.out 1 (.int .i64 x.g.w)).set HQn.out.1 HNE.out 2 (.int .i64 x.g.d)).set HQn.out.1 HNE.out 3 (.int .i64 x.g.s)).set HQn.out.1 HNE.out 4 (.slice none 0 0)).set HQn.out.1 HNE.out 5 (.slice A1 x.wk.length c1)).set HQn.out.1 HNE.out 6 (.slice none 0 0)).set HQn.out.1 HNE.out 7 (.slice none 0 0)).at_ (List.mem_cons_self ..)) 8 (.slice none 0 0))).trans (AbT.set _ ((((((((((KU.out.set HQn.out.1 HNE.out 0 (txt x.n)).set HQn.out.1 HNE.out 1 (.int .i64 x.g.w)).set HQn.out.1 HNE.out 2 (.int .i64 x.g.d)).set HQn.out.1 HNE.out 3 (.int .i64 x.g.s)).set HQn.out.1 HNE.out 4 (.slice none 0 0)).set HQn.out.1 HNE.out 5 (.slice A1 x.wk.length c1)).set HQn.out.1 HNE.out 6 (.slice none 0 0)).set HQn.out.1 HNE.out 7 (.slice none 0 0)).set HQn.out.1 HNE.out 8 (.slice none 0 0)).at_ (List.mem_cons_self ..)) 9 (.slice none 0 0))).trans (AbT.set _ (((((((((((KU.out.set HQn.out.1 HNE.out 0 (txt x.n)).set HQn.out.1 HNE.out 1 (.int .i64 x.g.w)).set HQn.out.1 HNE.out 2 (.int .i64 x.g.d)).set HQn.out.1 HNE.out 3 (.int .i64 x.g.s)).set HQn.out.1 HNE.out 4 (.slice none 0 0)).set HQn.out.1 HNE.out 5 (.slice A1 x.wk.length c1)).set HQn.out.1 HNE.out 6 (.slice none 0 0)).set HQn.out.1 HNE.out 7 (.slice none 0 0)).set HQn.out.1 HNE.out 8 (.slice none 0 0)).set HQn.out.1 HNE.out 9 (.slice none 0 0)).at_ (List.mem_cons_self ..)) 10 (.slice none 0 0))).trans (AbT.set _ ((((((((((((KU.out.set HQn.out.1 HNE.out 0 (txt x.n)).set HQn.out.1 HNE.out 1 (.int .i64 x.g.w)).set HQn.out.1 HNE.out 2 (.int .i64 x.g.d)).set HQn.out.1 HNE.out 3 (.int .i64 x.g.s)).set HQn.out.1 HNE.out 4 (.slice none 0 0)).set HQn.out.1 HNE.out 5 (.slice A1 x.wk.length c1)).set HQn.out.1 HNE.out 6 (.slice none 0 0)).set HQn.out.1 HNE.out 7 (.slice none 0 0)).set HQn.out.1 HNE.out 8 (.slice none 0 0)).set HQn.out.1 HNE.out 9 (.slice none 0 0)).set HQn.out.1 HNE.out 10 (.slice none 0 0)).at_ (List.mem_cons_self ..)) 11 (.int .i64 x.w0))).trans (AbT.set _ (((((((((((((KU.out.set HQn.out.1 HNE.out 0 (txt x.n)).set HQn.out.1 HNE.out 1 (.int .i64 x.g.w)).set HQn.out.1 HNE.out 2 (.int .i64 x.g.d)).set HQn.out.1 HNE.out 3 (.int .i64 x.g.s)).set HQn.out.1 HNE.out 4 (.slice none 0 0)).set HQn.out.1 HNE.out 5 (.slice A1 x.wk.length c1)).set HQn.out.1 HNE.out 6 (.slice none 0 0)).set HQn.out.1 HNE.out 7 (.slice none 0 0)).set HQn.out.1 HNE.out 8 (.slice none 0 0)).set HQn.out.1 HNE.out 9 (.slice none 0 0)).set HQn.out.1 HNE.out 10 (.slice none 0 0)).set HQn.out.1 HNE.out 11 (.int .i64 x.w0)).at_ (List.mem_cons_self ..)) 12 (.int .i64 x.w1))).trans (AbT.set _ ((((((((((((((KU.out.set HQn.out.1 HNE.out 0 (txt x.n)).set HQn.out.1 HNE.out 1 (.int .i64 x.g.w)).set HQn.out.1 HNE.out 2 (.int .i64 x.g.d)).set HQn.out.1 HNE.out 3 (.int .i64 x.g.s)).set HQn.out.1 HNE.out 4 (.slice none 0 0)).set HQn.out.1 HNE.out 5 (.slice A1 x.wk.length c1)).set HQn.out.1 HNE.out 6 (.slice none 0 0)).set HQn.out.1 HNE.out 7 (.slice none 0 0)).set HQn.out.1 HNE.out 8 (.slice none 0 0)).set HQn.out.1 HNE.out 9 (.slice none 0 0)).set HQn.out.1 HNE.out 10 (.slice none 0 0)).set HQn.out.1 HNE.out 11 (.int .i64 x.w0)).set HQn.out.1 HNE.out 12 (.int .i64 x.w1)).at_ (List.mem_cons_self ..)) 13 (.int .i64 x.w2))).trans (AbT.set _ (((((((((((((((KU.out.set HQn.out.1 HNE.out 0 (txt x.n)).set HQn.out.1 HNE.out 1 (.int .i64 x.g.w)).set HQn.out.1 HNE.out 2 (.int .i64 x.g.d)).set HQn.out.1 HNE.out 3 (.int .i64 x.g.s)).set HQn.out.1 HNE.out 4 (.slice none 0 0)).set HQn.out.1 HNE.out 5 (.slice A1 x.wk.length c1)).set HQn.out.1 HNE.out 6 (.slice none 0 0)).set HQn.out.1 HNE.out 7 (.slice none 0 0)).set HQn.out.1 HNE.out 8 (.slice none 0 0)).set HQn.out.1 HNE.out 9 (.slice none 0 0)).set HQn.out.1 HNE.out 10 (.slice none 0 0)).set HQn.out.1 HNE.out 11 (.int .i64 x.w0)).set HQn.out.1 HNE.out 12 (.int .i64 x.w1)).set HQn.out.1 HNE.out 13 (.int .i64 x.w2)).at_ (List.mem_cons_self ..)) 14 (.int .i64 x.w3)))))
    refine wpAnyH_ready (rs := [11]) (by kernel_rfl) (by simp) ?_
    refine AllReadyH.cons rfl (fun KK hK => ?_) AllReadyH.nil
    simp only [List.getElem_toArray, List.getElem_cons_succ, List.getElem_cons_zero]
    go_simp
    refine hK.out _ _ (KR.out.sub (l' := [(D, [.string ⟨#[]⟩, .int .i64 0, .int .i64 0, .int .i64 0, .slice none 0 0, .slice none 0 0, .slice none 0 0, .slice none 0 0, .slice none 0 0, .slice none 0 0, .slice none 0 0, .int .i64 0, .int .i64 0, .int .i64 0, .int .i64 0], 34), (G, pbc x, 34)]) (by simp)) (fun hHeld => ?_)
    clear hK KK
    try simp only [pt, List.set]
    refine wpAnyH_done (by kernel_rfl) ?_ _
    clear hHeld
    go_wp2_with fail
    go_meet
    exact ⟨Q, A1, c1, rfl, HQx, KR, HRow⟩
  · simp only [List.getElem_toArray, List.getElem_cons_succ, List.getElem_cons_zero]
    obtain ⟨Q, U0, hQ, hU0, KU0, hbU⟩ := K.out.one [.string ⟨#[]⟩, .int .i64 0, .int .i64 0, .int .i64 0, .slice none 0 0, .slice none 0 0, .slice none 0 0, .slice none 0 0, .slice none 0 0, .slice none 0 0, .slice none 0 0, .int .i64 0, .int .i64 0, .int .i64 0, .int .i64 0] 34
    have HQx := hid (show w.heap.size ≤ Q ∧ Q ≠ G ∧ Q ≠ D from by
     have h1 := (K.out.at_ (b := G) (cs := pbc x) (t := 34) (by simp)).lt
     have h2 := (K.out.at_ (b := D) (cs := [.string ⟨#[]⟩, .int .i64 0, .int .i64 0, .int .i64 0, .slice none 0 0, .slice none 0 0, .slice none 0 0, .slice none 0 0, .slice none 0 0, .slice none 0 0, .slice none 0 0, .int .i64 0, .int .i64 0, .int .i64 0, .int .i64 0]) (t := 34) (by simp)).lt
     have h3 := K.out.2.size
     omega)
    go_simp
    obtain ⟨U, hU⟩ : ∃ U, U0.drew = U := ⟨_, rfl⟩
    have KU := hid (show Mem w U [(Q, [.string ⟨#[]⟩, .int .i64 0, .int .i64 0, .int .i64 0, .slice none 0 0, .slice none 0 0, .slice none 0 0, .slice none 0 0, .slice none 0 0, .slice none 0 0, .slice none 0 0, .int .i64 0, .int .i64 0, .int .i64 0, .int .i64 0], 34), (D, [.string ⟨#[]⟩, .int .i64 0, .int .i64 0, .int .i64 0, .slice none 0 0, .slice none 0 0, .slice none 0 0, .slice none 0 0, .slice none 0 0, .slice none 0 0, .slice none 0 0, .int .i64 0, .int .i64 0, .int .i64 0, .int .i64 0], 34), (G, pbc x, 34)] from hU ▸ KU0.out.drew)
    rw [hU]
    have KS := hid (KU.out.sub (l' := [(D, [.string ⟨#[]⟩, .int .i64 0, .int .i64 0, .int .i64 0, .slice none 0 0, .slice none 0 0, .slice none 0 0, .slice none 0 0, .slice none 0 0, .slice none 0 0, .slice none 0 0, .int .i64 0, .int .i64 0, .int .i64 0, .int .i64 0], 34), (G, pbc x, 34)]) (by simp))
    clear hU hU0 KU0 hbU
    refine hK.out _ _ KS.out (fun hHeld => ?_)
    clear hK KK
    try simp only [pt, List.set]
    refine wpAnyH_ready (rs := [8]) (by kernel_rfl) (by simp) ?_
    refine AllReadyH.cons rfl (fun KK hK => ?_) AllReadyH.nil
    simp only [List.getElem_toArray, List.getElem_cons_succ, List.getElem_cons_zero]
    go_simp
    refine (HWk.out _ KU.out.2).mono ?_
    rintro e Y ⟨A1, n1, c1, rfl, hq, bz⟩
    have KY := hid (KU.out.next bz)
    obtain rfl := (I2Q.read hq).1
    have HQ2 := hid ((I2Q_ok x.wk).low _ _ _ _ _ _ hq KU.out.2.size)
    clear hq bz
    refine hK.out _ _ (KY.out.sub (l' := [(D, [.string ⟨#[]⟩, .int .i64 0, .int .i64 0, .int .i64 0, .slice none 0 0, .slice none 0 0, .slice none 0 0, .slice none 0 0, .slice none 0 0, .slice none 0 0, .slice none 0 0, .int .i64 0, .int .i64 0, .int .i64 0, .int .i64 0], 34), (G, pbc x, 34)]) (by simp)) (fun hHeld => ?_)
    clear hK KK
    try simp only [pt, List.set]
    refine tkD 9 24 (.agg #[txt x.n, .int .i64 x.g.w, .int .i64 x.g.d, .int .i64 x.g.s, .slice none 0 0, .slice A1 x.wk.length c1, .slice none 0 0, .slice none 0 0, .slice none 0 0, .slice none 0 0, .slice none 0 0, .int .i64 x.w0, .int .i64 x.w1, .int .i64 x.w2, .int .i64 x.w3]) rfl rfl hHeld ?_
    simp only [pt, List.set]
    have gz := (KY.out.at_ (b := Q) (cs := [.string ⟨#[]⟩, .int .i64 0, .int .i64 0, .int .i64 0, .slice none 0 0, .slice none 0 0, .slice none 0 0, .slice none 0 0, .slice none 0 0, .slice none 0 0, .slice none 0 0, .int .i64 0, .int .i64 0, .int .i64 0, .int .i64 0]) (t := 34) (by simp)).free
    have f0 := gz 0
    have z0 := KY.out.cell (b := Q) (cs := [.string ⟨#[]⟩, .int .i64 0, .int .i64 0, .int .i64 0, .slice none 0 0, .slice none 0 0, .slice none 0 0, .slice none 0 0, .slice none 0 0, .slice none 0 0, .slice none 0 0, .int .i64 0, .int .i64 0, .int .i64 0, .int .i64 0]) (t := 34) (by simp) (k := 0) rfl
    have f1 := gz 1
    have z1 := KY.out.cell (b := Q) (cs := [.string ⟨#[]⟩, .int .i64 0, .int .i64 0, .int .i64 0, .slice none 0 0, .slice none 0 0, .slice none 0 0, .slice none 0 0, .slice none 0 0, .slice none 0 0, .slice none 0 0, .int .i64 0, .int .i64 0, .int .i64 0, .int .i64 0]) (t := 34) (by simp) (k := 1) rfl
    have f2 := gz 2
    have z2 := KY.out.cell (b := Q) (cs := [.string ⟨#[]⟩, .int .i64 0, .int .i64 0, .int .i64 0, .slice none 0 0, .slice none 0 0, .slice none 0 0, .slice none 0 0, .slice none 0 0, .slice none 0 0, .slice none 0 0, .int .i64 0, .int .i64 0, .int .i64 0, .int .i64 0]) (t := 34) (by simp) (k := 2) rfl
    have f3 := gz 3
    have z3 := KY.out.cell (b := Q) (cs := [.string ⟨#[]⟩, .int .i64 0, .int .i64 0, .int .i64 0, .slice none 0 0, .slice none 0 0, .slice none 0 0, .slice none 0 0, .slice none 0 0, .slice none 0 0, .slice none 0 0, .int .i64 0, .int .i64 0, .int .i64 0, .int .i64 0]) (t := 34) (by simp) (k := 3) rfl
    have f4 := gz 4
    have z4 := KY.out.cell (b := Q) (cs := [.string ⟨#[]⟩, .int .i64 0, .int .i64 0, .int .i64 0, .slice none 0 0, .slice none 0 0, .slice none 0 0, .slice none 0 0, .slice none 0 0, .slice none 0 0, .slice none 0 0, .int .i64 0, .int .i64 0, .int .i64 0, .int .i64 0]) (t := 34) (by simp) (k := 4) rfl
    have f5 := gz 5
    have z5 := KY.out.cell (b := Q) (cs := [.string ⟨#[]⟩, .int .i64 0, .int .i64 0, .int .i64 0, .slice none 0 0, .slice none 0 0, .slice none 0 0, .slice none 0 0, .slice none 0 0, .slice none 0 0, .slice none 0 0, .int .i64 0, .int .i64 0, .int .i64 0, .int .i64 0]) (t := 34) (by simp) (k := 5) rfl
    have f6 := gz 6
    have z6 := KY.out.cell (b := Q) (cs := [.string ⟨#[]⟩, .int .i64 0, .int .i64 0, .int .i64 0, .slice none 0 0, .slice none 0 0, .slice none 0 0, .slice none 0 0, .slice none 0 0, .slice none 0 0, .slice none 0 0, .int .i64 0, .int .i64 0, .int .i64 0, .int .i64 0]) (t := 34) (by simp) (k := 6) rfl
    have f7 := gz 7
    have z7 := KY.out.cell (b := Q) (cs := [.string ⟨#[]⟩, .int .i64 0, .int .i64 0, .int .i64 0, .slice none 0 0, .slice none 0 0, .slice none 0 0, .slice none 0 0, .slice none 0 0, .slice none 0 0, .slice none 0 0, .int .i64 0, .int .i64 0, .int .i64 0, .int .i64 0]) (t := 34) (by simp) (k := 7) rfl
    have f8 := gz 8
    have z8 := KY.out.cell (b := Q) (cs := [.string ⟨#[]⟩, .int .i64 0, .int .i64 0, .int .i64 0, .slice none 0 0, .slice none 0 0, .slice none 0 0, .slice none 0 0, .slice none 0 0, .slice none 0 0, .slice none 0 0, .int .i64 0, .int .i64 0, .int .i64 0, .int .i64 0]) (t := 34) (by simp) (k := 8) rfl
    have f9 := gz 9
    have z9 := KY.out.cell (b := Q) (cs := [.string ⟨#[]⟩, .int .i64 0, .int .i64 0, .int .i64 0, .slice none 0 0, .slice none 0 0, .slice none 0 0, .slice none 0 0, .slice none 0 0, .slice none 0 0, .slice none 0 0, .int .i64 0, .int .i64 0, .int .i64 0, .int .i64 0]) (t := 34) (by simp) (k := 9) rfl
    have f10 := gz 10
    have z10 := KY.out.cell (b := Q) (cs := [.string ⟨#[]⟩, .int .i64 0, .int .i64 0, .int .i64 0, .slice none 0 0, .slice none 0 0, .slice none 0 0, .slice none 0 0, .slice none 0 0, .slice none 0 0, .slice none 0 0, .int .i64 0, .int .i64 0, .int .i64 0, .int .i64 0]) (t := 34) (by simp) (k := 10) rfl
    have f11 := gz 11
    have z11 := KY.out.cell (b := Q) (cs := [.string ⟨#[]⟩, .int .i64 0, .int .i64 0, .int .i64 0, .slice none 0 0, .slice none 0 0, .slice none 0 0, .slice none 0 0, .slice none 0 0, .slice none 0 0, .slice none 0 0, .int .i64 0, .int .i64 0, .int .i64 0, .int .i64 0]) (t := 34) (by simp) (k := 11) rfl
    have f12 := gz 12
    have z12 := KY.out.cell (b := Q) (cs := [.string ⟨#[]⟩, .int .i64 0, .int .i64 0, .int .i64 0, .slice none 0 0, .slice none 0 0, .slice none 0 0, .slice none 0 0, .slice none 0 0, .slice none 0 0, .slice none 0 0, .int .i64 0, .int .i64 0, .int .i64 0, .int .i64 0]) (t := 34) (by simp) (k := 12) rfl
    have f13 := gz 13
    have z13 := KY.out.cell (b := Q) (cs := [.string ⟨#[]⟩, .int .i64 0, .int .i64 0, .int .i64 0, .slice none 0 0, .slice none 0 0, .slice none 0 0, .slice none 0 0, .slice none 0 0, .slice none 0 0, .slice none 0 0, .int .i64 0, .int .i64 0, .int .i64 0, .int .i64 0]) (t := 34) (by simp) (k := 13) rfl
    have f14 := gz 14
    have z14 := KY.out.cell (b := Q) (cs := [.string ⟨#[]⟩, .int .i64 0, .int .i64 0, .int .i64 0, .slice none 0 0, .slice none 0 0, .slice none 0 0, .slice none 0 0, .slice none 0 0, .slice none 0 0, .slice none 0 0, .int .i64 0, .int .i64 0, .int .i64 0, .int .i64 0]) (t := 34) (by simp) (k := 14) rfl
    clear gz
    obtain ⟨R, hR⟩ : ∃ R, (((((((((((((((Y.setCell ⟨Q, 0, none⟩ (txt x.n)).setCell ⟨Q, 1, none⟩ (.int .i64 x.g.w)).setCell ⟨Q, 2, none⟩ (.int .i64 x.g.d)).setCell ⟨Q, 3, none⟩ (.int .i64 x.g.s)).setCell ⟨Q, 4, none⟩ (.slice none 0 0)).setCell ⟨Q, 5, none⟩ (.slice A1 x.wk.length c1)).setCell ⟨Q, 6, none⟩ (.slice none 0 0)).setCell ⟨Q, 7, none⟩ (.slice none 0 0)).setCell ⟨Q, 8, none⟩ (.slice none 0 0)).setCell ⟨Q, 9, none⟩ (.slice none 0 0)).setCell ⟨Q, 10, none⟩ (.slice none 0 0)).setCell ⟨Q, 11, none⟩ (.int .i64 x.w0)).setCell ⟨Q, 12, none⟩ (.int .i64 x.w1)).setCell ⟨Q, 13, none⟩ (.int .i64 x.w2)).setCell ⟨Q, 14, none⟩ (.int .i64 x.w3)) = R := ⟨_, rfl⟩
    have HQn := HQx
    have HNE := hid (show ∀ p ∈ ([(D, [.string ⟨#[]⟩, .int .i64 0, .int .i64 0, .int .i64 0, .slice none 0 0, .slice none 0 0, .slice none 0 0, .slice none 0 0, .slice none 0 0, .slice none 0 0, .slice none 0 0, .int .i64 0, .int .i64 0, .int .i64 0, .int .i64 0], 34), (G, pbc x, 34)] : Obs), p.1 ≠ Q from by simp only [List.mem_cons, List.not_mem_nil, or_false]; rintro p (rfl | rfl) <;> first | exact fun e => HQn.out.2.2 e.symm | exact fun e => HQn.out.2.1 e.symm)
    have KR := hid (show Mem w R [(Q, [txt x.n, .int .i64 x.g.w, .int .i64 x.g.d, .int .i64 x.g.s, .slice none 0 0, .slice A1 x.wk.length c1, .slice none 0 0, .slice none 0 0, .slice none 0 0, .slice none 0 0, .slice none 0 0, .int .i64 x.w0, .int .i64 x.w1, .int .i64 x.w2, .int .i64 x.w3], 34), (D, [.string ⟨#[]⟩, .int .i64 0, .int .i64 0, .int .i64 0, .slice none 0 0, .slice none 0 0, .slice none 0 0, .slice none 0 0, .slice none 0 0, .slice none 0 0, .slice none 0 0, .int .i64 0, .int .i64 0, .int .i64 0, .int .i64 0], 34), (G, pbc x, 34)] from hR ▸ (((((((((((((((KY.out.set HQn.out.1 HNE.out 0 (txt x.n)).set HQn.out.1 HNE.out 1 (.int .i64 x.g.w)).set HQn.out.1 HNE.out 2 (.int .i64 x.g.d)).set HQn.out.1 HNE.out 3 (.int .i64 x.g.s)).set HQn.out.1 HNE.out 4 (.slice none 0 0)).set HQn.out.1 HNE.out 5 (.slice A1 x.wk.length c1)).set HQn.out.1 HNE.out 6 (.slice none 0 0)).set HQn.out.1 HNE.out 7 (.slice none 0 0)).set HQn.out.1 HNE.out 8 (.slice none 0 0)).set HQn.out.1 HNE.out 9 (.slice none 0 0)).set HQn.out.1 HNE.out 10 (.slice none 0 0)).set HQn.out.1 HNE.out 11 (.int .i64 x.w0)).set HQn.out.1 HNE.out 12 (.int .i64 x.w1)).set HQn.out.1 HNE.out 13 (.int .i64 x.w2)).set HQn.out.1 HNE.out 14 (.int .i64 x.w3)))
    have HRow := hid (show I2Q x.wk w.heap.size A1 x.wk.length c1 R from RowQ.abt (t := 34) (by decide) (OwE_t (by decide)) HQ2.out (hR ▸ (((((((((((((((AbT.set _ ((KY.out).at_ (List.mem_cons_self ..)) 0 (txt x.n)).trans (AbT.set _ ((KY.out.set HQn.out.1 HNE.out 0 (txt x.n)).at_ (List.mem_cons_self ..)) 1 (.int .i64 x.g.w))).trans (AbT.set _ (((KY.out.set HQn.out.1 HNE.out 0 (txt x.n)).set HQn.out.1 HNE.out 1 (.int .i64 x.g.w)).at_ (List.mem_cons_self ..)) 2 (.int .i64 x.g.d))).trans (AbT.set _ ((((KY.out.set HQn.out.1 HNE.out 0 (txt x.n)).set HQn.out.1 HNE.out 1 (.int .i64 x.g.w)).set HQn.out.1 HNE.out 2 (.int .i64 x.g.d)).at_ (List.mem_cons_self ..)) 3 (.int .i64 x.g.s))).trans (AbT.set _ (((((KY.out.set HQn.out.1 HNE.out 0 (txt x.n)).set HQn.out.1 HNE.out 1 (.int .i64 x.g.w)).set HQn.out.1 HNE.out 2 (.int .i64 x.g.d)).set HQn.out.1 HNE.out 3 (.int .i64 x.g.s)).at_ (List.mem_cons_self ..)) 4 (.slice none 0 0))).trans (AbT.set _ ((((((KY.out.set HQn.out.1 HNE.out 0 (txt x.n)).set HQn.out.1 HNE.out 1 (.int .i64 x.g.w)).set HQn.out.1 HNE.out 2 (.int .i64 x.g.d)).set HQn.out.1 HNE.out 3 (.int .i64 x.g.s)).set HQn.out.1 HNE.out 4 (.slice none 0 0)).at_ (List.mem_cons_self ..)) 5 (.slice A1 x.wk.length c1))).trans (AbT.set _ (((((((KY.out.set HQn.out.1 HNE.out 0 (txt x.n)).set HQn.out.1 HNE.out 1 (.int .i64 x.g.w)).set HQn.out.1 HNE.out 2 (.int .i64 x.g.d)).set HQn.out.1 HNE.out 3 (.int .i64 x.g.s)).set HQn.out.1 HNE.out 4 (.slice none 0 0)).set HQn.out.1 HNE.out 5 (.slice A1 x.wk.length c1)).at_ (List.mem_cons_self ..)) 6 (.slice none 0 0))).trans (AbT.set _ ((((((((KY.out.set HQn.out.1 HNE.out 0 (txt x.n)).set HQn.out.1 HNE.out 1 (.int .i64 x.g.w)).set HQn.out.1 HNE.out 2 (.int .i64 x.g.d)).set HQn.out.1 HNE.out 3 (.int .i64 x.g.s)).set HQn.out.1 HNE.out 4 (.slice none 0 0)).set HQn.out.1 HNE.out 5 (.slice A1 x.wk.length c1)).set HQn.out.1 HNE.out 6 (.slice none 0 0)).at_ (List.mem_cons_self ..)) 7 (.slice none 0 0))).trans (AbT.set _ (((((((((KY.out.set HQn.out.1 HNE.out 0 (txt x.n)).set HQn.out.1 HNE.out 1 (.int .i64 x.g.w)).set HQn.out.1 HNE.out 2 (.int .i64 x.g.d)).set HQn.out.1 HNE.out 3 (.int .i64 x.g.s)).set HQn.out.1 HNE.out 4 (.slice none 0 0)).set HQn.out.1 HNE.out 5 (.slice A1 x.wk.length c1)).set HQn.out.1 HNE.out 6 (.slice none 0 0)).set HQn.out.1 HNE.out 7 (.slice none 0 0)).at_ (List.mem_cons_self ..)) 8 (.slice none 0 0))).trans (AbT.set _ ((((((((((KY.out.set HQn.out.1 HNE.out 0 (txt x.n)).set HQn.out.1 HNE.out 1 (.int .i64 x.g.w)).set HQn.out.1 HNE.out 2 (.int .i64 x.g.d)).set HQn.out.1 HNE.out 3 (.int .i64 x.g.s)).set HQn.out.1 HNE.out 4 (.slice none 0 0)).set HQn.out.1 HNE.out 5 (.slice A1 x.wk.length c1)).set HQn.out.1 HNE.out 6 (.slice none 0 0)).set HQn.out.1 HNE.out 7 (.slice none 0 0)).set HQn.out.1 HNE.out 8 (.slice none 0 0)).at_ (List.mem_cons_self ..)) 9 (.slice none 0 0))).trans (AbT.set _ (((((((((((KY.out.set HQn.out.1 HNE.out 0 (txt x.n)).set HQn.out.1 HNE.out 1 (.int .i64 x.g.w)).set HQn.out.1 HNE.out 2 (.int .i64 x.g.d)).set HQn.out.1 HNE.out 3 (.int .i64 x.g.s)).set HQn.out.1 HNE.out 4 (.slice none 0 0)).set HQn.out.1 HNE.out 5 (.slice A1 x.wk.length c1)).set HQn.out.1 HNE.out 6 (.slice none 0 0)).set HQn.out.1 HNE.out 7 (.slice none 0 0)).set HQn.out.1 HNE.out 8 (.slice none 0 0)).set HQn.out.1 HNE.out 9 (.slice none 0 0)).at_ (List.mem_cons_self ..)) 10 (.slice none 0 0))).trans (AbT.set _ ((((((((((((KY.out.set HQn.out.1 HNE.out 0 (txt x.n)).set HQn.out.1 HNE.out 1 (.int .i64 x.g.w)).set HQn.out.1 HNE.out 2 (.int .i64 x.g.d)).set HQn.out.1 HNE.out 3 (.int .i64 x.g.s)).set HQn.out.1 HNE.out 4 (.slice none 0 0)).set HQn.out.1 HNE.out 5 (.slice A1 x.wk.length c1)).set HQn.out.1 HNE.out 6 (.slice none 0 0)).set HQn.out.1 HNE.out 7 (.slice none 0 0)).set HQn.out.1 HNE.out 8 (.slice none 0 0)).set HQn.out.1 HNE.out 9 (.slice none 0 0)).set HQn.out.1 HNE.out 10 (.slice none 0 0)).at_ (List.mem_cons_self ..)) 11 (.int .i64 x.w0))).trans (AbT.set _ (((((((((((((KY.out.set HQn.out.1 HNE.out 0 (txt x.n)).set HQn.out.1 HNE.out 1 (.int .i64 x.g.w)).set HQn.out.1 HNE.out 2 (.int .i64 x.g.d)).set HQn.out.1 HNE.out 3 (.int .i64 x.g.s)).set HQn.out.1 HNE.out 4 (.slice none 0 0)).set HQn.out.1 HNE.out 5 (.slice A1 x.wk.length c1)).set HQn.out.1 HNE.out 6 (.slice none 0 0)).set HQn.out.1 HNE.out 7 (.slice none 0 0)).set HQn.out.1 HNE.out 8 (.slice none 0 0)).set HQn.out.1 HNE.out 9 (.slice none 0 0)).set HQn.out.1 HNE.out 10 (.slice none 0 0)).set HQn.out.1 HNE.out 11 (.int .i64 x.w0)).at_ (List.mem_cons_self ..)) 12 (.int .i64 x.w1))).trans (AbT.set _ ((((((((((((((KY.out.set HQn.out.1 HNE.out 0 (txt x.n)).set HQn.out.1 HNE.out 1 (.int .i64 x.g.w)).set HQn.out.1 HNE.out 2 (.int .i64 x.g.d)).set HQn.out.1 HNE.out 3 (.int .i64 x.g.s)).set HQn.out.1 HNE.out 4 (.slice none 0 0)).set HQn.out.1 HNE.out 5 (.slice A1 x.wk.length c1)).set HQn.out.1 HNE.out 6 (.slice none 0 0)).set HQn.out.1 HNE.out 7 (.slice none 0 0)).set HQn.out.1 HNE.out 8 (.slice none 0 0)).set HQn.out.1 HNE.out 9 (.slice none 0 0)).set HQn.out.1 HNE.out 10 (.slice none 0 0)).set HQn.out.1 HNE.out 11 (.int .i64 x.w0)).set HQn.out.1 HNE.out 12 (.int .i64 x.w1)).at_ (List.mem_cons_self ..)) 13 (.int .i64 x.w2))).trans (AbT.set _ (((((((((((((((KY.out.set HQn.out.1 HNE.out 0 (txt x.n)).set HQn.out.1 HNE.out 1 (.int .i64 x.g.w)).set HQn.out.1 HNE.out 2 (.int .i64 x.g.d)).set HQn.out.1 HNE.out 3 (.int .i64 x.g.s)).set HQn.out.1 HNE.out 4 (.slice none 0 0)).set HQn.out.1 HNE.out 5 (.slice A1 x.wk.length c1)).set HQn.out.1 HNE.out 6 (.slice none 0 0)).set HQn.out.1 HNE.out 7 (.slice none 0 0)).set HQn.out.1 HNE.out 8 (.slice none 0 0)).set HQn.out.1 HNE.out 9 (.slice none 0 0)).set HQn.out.1 HNE.out 10 (.slice none 0 0)).set HQn.out.1 HNE.out 11 (.int .i64 x.w0)).set HQn.out.1 HNE.out 12 (.int .i64 x.w1)).set HQn.out.1 HNE.out 13 (.int .i64 x.w2)).at_ (List.mem_cons_self ..)) 14 (.int .i64 x.w3)))))
    refine wpAnyH_ready (rs := [11]) (by kernel_rfl) (by simp) ?_
    refine AllReadyH.cons rfl (fun KK hK => ?_) AllReadyH.nil
    simp only [List.getElem_toArray, List.getElem_cons_succ, List.getElem_cons_zero]
    go_simp
    refine hK.out _ _ (KR.out.sub (l' := [(D, [.string ⟨#[]⟩, .int .i64 0, .int .i64 0, .int .i64 0, .slice none 0 0, .slice none 0 0, .slice none 0 0, .slice none 0 0, .slice none 0 0, .slice none 0 0, .slice none 0 0, .int .i64 0, .int .i64 0, .int .i64 0, .int .i64 0], 34), (G, pbc x, 34)]) (by simp)) (fun hHeld => ?_)
    clear hK KK
    try simp only [pt, List.set]
    refine wpAnyH_done (by kernel_rfl) ?_ _
    clear hHeld
    go_wp2_with fail
    go_meet
    exact ⟨Q, A1, c1, rfl, HQx, KR, HRow⟩
 case rest =>
  revert wc
  intro w0 hcut
  obtain ⟨Q, A1, c1, rfl, HQx, KQ, HF1⟩ := hcut
  clear K
  have HGQ := hid (show w.heap.size ≤ G ∧ w.heap.size ≤ D ∧ w.heap.size ≤ Q ∧ Q ≠ G ∧ Q ≠ D from ⟨HGD.out.1, HGD.out.2.1, HQx.out.1, HQx.out.2.1, HQx.out.2.2⟩)
  have HNE := hid (show ∀ p ∈ ([(D, [.string ⟨#[]⟩, .int .i64 0, .int .i64 0, .int .i64 0, .slice none 0 0, .slice none 0 0, .slice none 0 0, .slice none 0 0, .slice none 0 0, .slice none 0 0, .slice none 0 0, .int .i64 0, .int .i64 0, .int .i64 0, .int .i64 0], 34), (G, pbc x, 34)] : Obs), p.1 ≠ Q from by simp only [List.mem_cons, List.not_mem_nil, or_false]; rintro p (rfl | rfl) <;> first | exact fun e => HQx.out.2.2 e.symm | exact fun e => HQx.out.2.1 e.symm)
  obtain ⟨C, hC⟩ : ∃ C, w0.heap.size = C := ⟨_, rfl⟩
  have HC := hid hC
  have HGC := hid (show w.heap.size ≤ C ∧ G < C ∧ D < C ∧ Q < C from by
   have h1 := (KQ.out.at_ (b := G) (cs := pbc x) (t := 34) (by simp)).lt
   have h2 := (KQ.out.at_ (b := D) (cs := [.string ⟨#[]⟩, .int .i64 0, .int .i64 0, .int .i64 0, .slice none 0 0, .slice none 0 0, .slice none 0 0, .slice none 0 0, .slice none 0 0, .slice none 0 0, .slice none 0 0, .int .i64 0, .int .i64 0, .int .i64 0, .int .i64 0]) (t := 34) (by simp)).lt
   have h3 := (KQ.out.at_ (b := Q) (cs := [txt x.n, .int .i64 x.g.w, .int .i64 x.g.d, .int .i64 x.g.s, .slice none 0 0, .slice A1 x.wk.length c1, .slice none 0 0, .slice none 0 0, .slice none 0 0, .slice none 0 0, .slice none 0 0, .int .i64 x.w0, .int .i64 x.w1, .int .i64 x.w2, .int .i64 x.w3]) (t := 34) (by simp)).lt
   have h4 := KQ.out.2.size
   omega)
  clear hC
  have SO := hid (show ElOk RmE 52 4 from OwE_ok (by decide))
  go_wp2_with fail
  go_loopw [4] (fun iv wr => ∃ (k : Nat) (A : Option Addr) (c : Nat), iv = .int .i64 ((k : Nat) : Int) ∧ k ≤ x.rm.length ∧ Hid (Mem w wr [(Q, [txt x.n, .int .i64 x.g.w, .int .i64 x.g.d, .int .i64 x.g.s, .slice A k c, .slice A1 x.wk.length c1, .slice none 0 0, .slice none 0 0, .slice none 0 0, .slice none 0 0, .slice none 0 0, .int .i64 x.w0, .int .i64 x.w1, .int .i64 x.w2, .int .i64 x.w3], 34), (D, [.string ⟨#[]⟩, .int .i64 0, .int .i64 0, .int .i64 0, .slice none 0 0, .slice none 0 0, .slice none 0 0, .slice none 0 0, .slice none 0 0, .slice none 0 0, .slice none 0 0, .int .i64 0, .int .i64 0, .int .i64 0, .int .i64 0], 34), (G, pbc x, 34)]) ∧ Hid (RowQ enR 52 4 (fun z => z.r) RmE ((x.rm.take k).map (fun z => z.r)) C A k c wr) ∧ Hid (AbT 34 w.heap.size w0.heap.size w0 wr)) (fun iv _ => x.rm.length - (intOf iv).toNat)
  case atStart => exact ⟨0, none, 0, rfl, Nat.zero_le _, KQ, hid ⟨[], by simp only [List.take_zero, List.map_nil], rfl, own_none _ _ _ _, fun z hz => by cases hz⟩, hid (AbT.refl _ _ _ _)⟩
  case round =>
   clear KQ
   obtain ⟨k, A0, c0, rfl, hk, KM, HQ, HT⟩ := hrel
   have hCwr := hid (show C ≤ wr.heap.size from by have := HT.out.1; have := HC.out; omega)
   have pG := KM.out.cell (b := G) (cs := pbc x) (t := 34) (by simp) (k := 4) rfl
   by_cases hlt : k < x.rm.length
   · skip
     obtain ⟨ad, y, e0, hadb, hy, hyl, hcell⟩ := Es.get (K := 4) enR_len (by decide) (HI.out.rm.below KM.out.2 (Nat.le_refl _)) hlt
     rw [e0] at pG
     have b1 : (0 : Int) ≤ (k : Int) := by omega
     have b2 : (k : Int) < x.rm.length := by omega
     have h63 : k + 1 ≤ maxLen := by unfold maxLen; omega
     have hby : (k + 1) * 56 ≤ 140737488355328 := by omega
     have Hds := hid (take_map17 (fun z : RmA => z.r) hy.out)
     obtain ⟨i0, hi0, hz0, hz1, hz2⟩ := info_parts Tryz.inf17_room
     have d0 := hcell 0 _ rfl
     rw [Nat.add_zero] at d0
     have d1 := hcell 1 _ rfl
     rw [add_add _ _ _ (by omega)] at d1
     have d2 := hcell 2 _ rfl
     rw [add_add _ _ _ (by omega)] at d2
     have d3 := hcell 3 _ rfl
     rw [add_add _ _ _ (by omega)] at d3
     obtain ⟨R, U, hR, hU, K2, hb2⟩ := KM.out.one [.string ⟨#[]⟩, .int .i64 0, .int .u16 0, .slice none 0 0] 52
     have HRw := hid (show w.heap.size ≤ R ∧ C ≤ R ∧ Q < R ∧ D < R ∧ G < R from by have := HGC.out; have := hCwr.out; omega)
     have HRN := hid (show ∀ p ∈ ([(Q, [txt x.n, .int .i64 x.g.w, .int .i64 x.g.d, .int .i64 x.g.s, .slice A0 k c0, .slice A1 x.wk.length c1, .slice none 0 0, .slice none 0 0, .slice none 0 0, .slice none 0 0, .slice none 0 0, .int .i64 x.w0, .int .i64 x.w1, .int .i64 x.w2, .int .i64 x.w3], 34), (D, [.string ⟨#[]⟩, .int .i64 0, .int .i64 0, .int .i64 0, .slice none 0 0, .slice none 0 0, .slice none 0 0, .slice none 0 0, .slice none 0 0, .slice none 0 0, .slice none 0 0, .int .i64 0, .int .i64 0, .int .i64 0, .int .i64 0], 34), (G, pbc x, 34)] : Obs), p.1 ≠ R from by simp only [List.mem_cons, List.not_mem_nil, or_false]; have := HRw.out; rintro p (rfl | rfl | rfl) <;> (simp only [ne_eq]; omega))
     have gz := (K2.out.at_ (b := R) (cs := [.string ⟨#[]⟩, .int .i64 0, .int .u16 0, .slice none 0 0]) (t := 52) (by simp)).free
     have f20 := gz 0
     have z20 := K2.out.cell (b := R) (cs := [.string ⟨#[]⟩, .int .i64 0, .int .u16 0, .slice none 0 0]) (t := 52) (by simp) (k := 0) rfl
     have f21 := gz 1
     have z21 := K2.out.cell (b := R) (cs := [.string ⟨#[]⟩, .int .i64 0, .int .u16 0, .slice none 0 0]) (t := 52) (by simp) (k := 1) rfl
     have f22 := gz 2
     have z22 := K2.out.cell (b := R) (cs := [.string ⟨#[]⟩, .int .i64 0, .int .u16 0, .slice none 0 0]) (t := 52) (by simp) (k := 2) rfl
     have f23 := gz 3
     have z23 := K2.out.cell (b := R) (cs := [.string ⟨#[]⟩, .int .i64 0, .int .u16 0, .slice none 0 0]) (t := 52) (by simp) (k := 3) rfl
     clear gz
     obtain ⟨U2, hU2⟩ : ∃ U2, ((((U.setCell ⟨R, 0, none⟩ (txt y.r.n)).setCell ⟨R, 1, none⟩ (.int .i64 y.r.s)).setCell ⟨R, 2, none⟩ (.int .u16 (y.r.g : Int))).setCell ⟨R, 3, none⟩ (.slice y.a y.r.l.length y.c)) = U2 := ⟨_, rfl⟩
     have K3 := hid (show Mem w U2 [(R, enR y, 52), (Q, [txt x.n, .int .i64 x.g.w, .int .i64 x.g.d, .int .i64 x.g.s, .slice A0 k c0, .slice A1 x.wk.length c1, .slice none 0 0, .slice none 0 0, .slice none 0 0, .slice none 0 0, .slice none 0 0, .int .i64 x.w0, .int .i64 x.w1, .int .i64 x.w2, .int .i64 x.w3], 34), (D, [.string ⟨#[]⟩, .int .i64 0, .int .i64 0, .int .i64 0, .slice none 0 0, .slice none 0 0, .slice none 0 0, .slice none 0 0, .slice none 0 0, .slice none 0 0, .slice none 0 0, .int .i64 0, .int .i64 0, .int .i64 0, .int .i64 0], 34), (G, pbc x, 34)] from hU2 ▸ ((((K2.out.set HRw.out.1 HRN.out 0 (txt y.r.n)).set HRw.out.1 HRN.out 1 (.int .i64 y.r.s)).set HRw.out.1 HRN.out 2 (.int .u16 (y.r.g : Int))).set HRw.out.1 HRN.out 3 (.slice y.a y.r.l.length y.c)))
     have B3 := hid (show Below wr.heap.size wr U2 from hU2 ▸ ((((hb2.setCell (p := ⟨R, 0, none⟩) (Nat.le_of_eq hR) (txt y.r.n)).setCell (p := ⟨R, 1, none⟩) (Nat.le_of_eq hR) (.int .i64 y.r.s)).setCell (p := ⟨R, 2, none⟩) (Nat.le_of_eq hR) (.int .u16 (y.r.g : Int))).setCell (p := ⟨R, 3, none⟩) (Nat.le_of_eq hR) (.slice y.a y.r.l.length y.c)))
     have r3 := K3.out.cell (b := R) (cs := enR y) (t := 52) (by simp) (k := 3) rfl
     have HCy := hid (HCrm.out y hyl _ K3.out.2)
     have HU2 := hid (show R < U2.heap.size from (K3.out.at_ (b := R) (cs := enR y) (t := 52) (by simp)).lt)
     clear hcell hb2 K2
     go_wp2_with fail
     refine HCy.out.mono ?_
     rintro e Y ⟨A8, n8, c8, rfl, ⟨rfl, ho⟩, bz⟩
     have K4 := hid (K3.out.next bz)
     have g4 := (K4.out.at_ (b := R) (cs := enR y) (t := 52) (by simp)).free 3
     have y4 := K4.out.cell (b := R) (cs := enR y) (t := 52) (by simp) (k := 3) rfl
     obtain ⟨U3, hU3⟩ : ∃ X, Y.setCell ⟨R, 3, none⟩ (.slice A8 y.r.l.length c8) = X := ⟨_, rfl⟩
     have K5 := hid (show Mem w U3 [(R, enR ⟨y.r, A8, c8⟩, 52), (Q, [txt x.n, .int .i64 x.g.w, .int .i64 x.g.d, .int .i64 x.g.s, .slice A0 k c0, .slice A1 x.wk.length c1, .slice none 0 0, .slice none 0 0, .slice none 0 0, .slice none 0 0, .slice none 0 0, .int .i64 x.w0, .int .i64 x.w1, .int .i64 x.w2, .int .i64 x.w3], 34), (D, [.string ⟨#[]⟩, .int .i64 0, .int .i64 0, .int .i64 0, .slice none 0 0, .slice none 0 0, .slice none 0 0, .slice none 0 0, .slice none 0 0, .slice none 0 0, .slice none 0 0, .int .i64 0, .int .i64 0, .int .i64 0, .int .i64 0], 34), (G, pbc x, 34)] from hU3 ▸ K4.out.set HRw.out.1 HRN.out 3 _)
     have B5 := hid (show Below wr.heap.size wr U3 from hU3 ▸ (B3.out.trans (bz.mono B3.out.size)).setCell (p := ⟨R, 3, none⟩) (Nat.le_of_eq hR) _)
     have HY5 := hid (show RmE C ⟨y.r, A8, c8⟩ U3 from own_mono (own_abv ho (hU3 ▸ Abv.set _ _ _ HU2.out)) (by have := HU2.out; have := HRw.out; omega))
     clear ho bz K4 K3 r3 f20 z20 f21 z21 f22 z22 f23 z23
     have q5 := K5.out.cell (b := Q) (cs := [txt x.n, .int .i64 x.g.w, .int .i64 x.g.d, .int .i64 x.g.s, .slice A0 k c0, .slice A1 x.wk.length c1, .slice none 0 0, .slice none 0 0, .slice none 0 0, .slice none 0 0, .slice none 0 0, .int .i64 x.w0, .int .i64 x.w1, .int .i64 x.w2, .int .i64 x.w3]) (t := 34) (by simp) (k := 4) rfl
     have r50 := K5.out.cell (b := R) (cs := enR ⟨y.r, A8, c8⟩) (t := 52) (by simp) (k := 0) rfl
     have r51 := K5.out.cell (b := R) (cs := enR ⟨y.r, A8, c8⟩) (t := 52) (by simp) (k := 1) rfl
     have r52 := K5.out.cell (b := R) (cs := enR ⟨y.r, A8, c8⟩) (t := 52) (by simp) (k := 2) rfl
     have r53 := K5.out.cell (b := R) (cs := enR ⟨y.r, A8, c8⟩) (t := 52) (by simp) (k := 3) rfl
     obtain ⟨zs, hzm, hzl, O, hzE⟩ := (RowQ_ok SO.out _).keep _ _ _ _ _ _ HQ.out (Abv.of B5.out)
     have O := hid O
     have HzE := hid hzE
     have hC5 := hid (show C ≤ U3.heap.size from Nat.le_trans hCwr.out B5.out.size)
     clear hzE HQ
     go_wp2_with (at_builtin; refine wpList_append_own _ rfl _ _ 24 rfl C 52 i0 (.agg #[.string ⟨#[]⟩, .int .i64 0, .int .u16 0, .slice none 0 0]) 4 56 Tryz.underlying24 hi0 hz0 hz1 hz2 rfl (by decide) _ _ _ rfl (O.out.alloc _) ⟨_, 0, none⟩ 1 1 (enR (⟨y.r, A8, c8⟩)) rfl rfl (elit_get _ _ _) (one17_Room _) h63 hby (le_alloc hC5.out _) ?_; intro v1 w5 hown2 hgrow _; have bl := below_alloc U3 (.cells (enR (⟨y.r, A8, c8⟩)).toArray 52); obtain ⟨A9, c9, rfl, hq9⟩ := RowQ.grown (f := fun z : RmA => z.r) SO.out (O.out.alloc _) hzm hzl (fun z hz => SO.out.keep _ _ _ _ (HzE.out z hz) (Abv.of bl)) (SO.out.keep _ _ _ _ HY5.out (Abv.of bl)) hown2 hgrow; have bC := (bl.mono hC5.out).trans ((Below.refl C _).grown hgrow (le_alloc hC5.out _) (fun k hk => (O.out.lt k hk).1)); have K6 := hid ((K5.out.sub (l' := [(Q, [txt x.n, .int .i64 x.g.w, .int .i64 x.g.d, .int .i64 x.g.s, .slice A0 k c0, .slice A1 x.wk.length c1, .slice none 0 0, .slice none 0 0, .slice none 0 0, .slice none 0 0, .slice none 0 0, .int .i64 x.w0, .int .i64 x.w1, .int .i64 x.w2, .int .i64 x.w3], 34), (D, [.string ⟨#[]⟩, .int .i64 0, .int .i64 0, .int .i64 0, .slice none 0 0, .slice none 0 0, .slice none 0 0, .slice none 0 0, .slice none 0 0, .slice none 0 0, .slice none 0 0, .int .i64 0, .int .i64 0, .int .i64 0, .int .i64 0], 34), (G, pbc x, 34)]) (by simp)).grown17 bC HGC.out.1 (by simp only [List.mem_cons, List.not_mem_nil, or_false]; have := HGC.out; rintro p (rfl | rfl | rfl) <;> (simp only; omega))); have fq := (K6.out.at_ (b := Q) (cs := [txt x.n, .int .i64 x.g.w, .int .i64 x.g.d, .int .i64 x.g.s, .slice A0 k c0, .slice A1 x.wk.length c1, .slice none 0 0, .slice none 0 0, .slice none 0 0, .slice none 0 0, .slice none 0 0, .int .i64 x.w0, .int .i64 x.w1, .int .i64 x.w2, .int .i64 x.w3]) (t := 34) (by simp)).free 4; have yq := K6.out.cell (b := Q) (cs := [txt x.n, .int .i64 x.g.w, .int .i64 x.g.d, .int .i64 x.g.s, .slice A0 k c0, .slice A1 x.wk.length c1, .slice none 0 0, .slice none 0 0, .slice none 0 0, .slice none 0 0, .slice none 0 0, .int .i64 x.w0, .int .i64 x.w1, .int .i64 x.w2, .int .i64 x.w3]) (t := 34) (by simp) (k := 4) rfl; obtain ⟨U6, hU6⟩ : ∃ X, w5.setCell ⟨Q, 4, none⟩ (.slice A9 (k + 1) c9) = X := ⟨_, rfl⟩; have K7 := hid (show Mem w U6 [(Q, [txt x.n, .int .i64 x.g.w, .int .i64 x.g.d, .int .i64 x.g.s, .slice A9 (k + 1) c9, .slice A1 x.wk.length c1, .slice none 0 0, .slice none 0 0, .slice none 0 0, .slice none 0 0, .slice none 0 0, .int .i64 x.w0, .int .i64 x.w1, .int .i64 x.w2, .int .i64 x.w3], 34), (D, [.string ⟨#[]⟩, .int .i64 0, .int .i64 0, .int .i64 0, .slice none 0 0, .slice none 0 0, .slice none 0 0, .slice none 0 0, .slice none 0 0, .slice none 0 0, .slice none 0 0, .int .i64 0, .int .i64 0, .int .i64 0, .int .i64 0], 34), (G, pbc x, 34)] from hU6 ▸ K6.out.set HGQ.out.2.2.1 HNE.out 4 _); have hab := AbT.set (b := w.heap.size) (C := w5.heap.size) w5 (K6.out.at_ (b := Q) (cs := [txt x.n, .int .i64 x.g.w, .int .i64 x.g.d, .int .i64 x.g.s, .slice A0 k c0, .slice A1 x.wk.length c1, .slice none 0 0, .slice none 0 0, .slice none 0 0, .slice none 0 0, .slice none 0 0, .int .i64 x.w0, .int .i64 x.w1, .int .i64 x.w2, .int .i64 x.w3]) (t := 34) (by simp)) 4 (.slice A9 (k + 1) c9); have HQ7 := hid (show RowQ enR 52 4 (fun z => z.r) RmE ((x.rm.take (k + 1)).map (fun z => z.r)) C A9 (k + 1) c9 U6 from by rw [Hds.out]; exact hU6 ▸ RowQ.abt (by decide) (OwE_t (by decide)) hq9 (hab.up HGC.out.1)); have hCw := HC.out; have HT7 := hid (show AbT 34 w.heap.size w0.heap.size w0 U6 from (HT.out.trans (AbT.of ((B5.out.mono (Nat.le_trans (Nat.le_of_eq hCw) hCwr.out)).trans (bC.mono (Nat.le_of_eq hCw))))).trans (hU6 ▸ hab.less (by have := bC.size; have := hC5.out; omega))); clear hown2 hgrow bl bC hq9 hab hCw)
     exact ⟨⟨k + 1, A9, c9, by go_num, by omega, K7, HQ7, HT7⟩, by simp [intOf]; omega⟩
   · obtain rfl : k = x.rm.length := by omega
     have b2 : ¬ (x.rm.length : Int) < x.rm.length := by omega
     rw [List.take_length] at HQ
     replace HF1 := hid (RowQ.abt (t := 34) (by decide) (OwE_t (by decide)) HF1.out HT.out)
     have HF0 := hid ((RowQ_ok SO.out _).low _ _ _ _ _ _ HQ.out HGC.out.1)
     clear HQ HT HC HGC hCwr SO
     have KQ0 := KM
     clear KM
     obtain ⟨wl0, hwl⟩ : ∃ X, X = wr := ⟨_, rfl⟩
     subst hwl
     obtain ⟨C, hC⟩ : ∃ C, wl0.heap.size = C := ⟨_, rfl⟩
     have HC := hid hC
     have HGC := hid (show w.heap.size ≤ C ∧ G < C ∧ D < C ∧ Q < C from by
      have h1 := (KQ0.out.at_ (b := G) (cs := pbc x) (t := 34) (by simp)).lt
      have h2 := (KQ0.out.at_ (b := D) (cs := [.string ⟨#[]⟩, .int .i64 0, .int .i64 0, .int .i64 0, .slice none 0 0, .slice none 0 0, .slice none 0 0, .slice none 0 0, .slice none 0 0, .slice none 0 0, .slice none 0 0, .int .i64 0, .int .i64 0, .int .i64 0, .int .i64 0]) (t := 34) (by simp)).lt
      have h3 := (KQ0.out.at_ (b := Q) (cs := [txt x.n, .int .i64 x.g.w, .int .i64 x.g.d, .int .i64 x.g.s, .slice A0 x.rm.length c0, .slice A1 x.wk.length c1, .slice none 0 0, .slice none 0 0, .slice none 0 0, .slice none 0 0, .slice none 0 0, .int .i64 x.w0, .int .i64 x.w1, .int .i64 x.w2, .int .i64 x.w3]) (t := 34) (by simp)).lt
      have h4 := KQ0.out.2.size
      omega)
     clear hC
     have SO := hid (show ElOk PsE 57 2 from OwE_ok (by decide))
     go_wp2_with fail
     clear pG hlt hk b2
     rename_i a1 Kx a2
     clear a1
     have AH := hid a2
     clear a2
     go_loopw [6] (fun iv wr => ∃ (k : Nat) (A : Option Addr) (c : Nat), iv = .int .i64 ((k : Nat) : Int) ∧ k ≤ x.ps.length ∧ Hid (Mem w wr [(Q, [txt x.n, .int .i64 x.g.w, .int .i64 x.g.d, .int .i64 x.g.s, .slice A0 x.rm.length c0, .slice A1 x.wk.length c1, .slice A k c, .slice none 0 0, .slice none 0 0, .slice none 0 0, .slice none 0 0, .int .i64 x.w0, .int .i64 x.w1, .int .i64 x.w2, .int .i64 x.w3], 34), (D, [.string ⟨#[]⟩, .int .i64 0, .int .i64 0, .int .i64 0, .slice none 0 0, .slice none 0 0, .slice none 0 0, .slice none 0 0, .slice none 0 0, .slice none 0 0, .slice none 0 0, .int .i64 0, .int .i64 0, .int .i64 0, .int .i64 0], 34), (G, pbc x, 34)]) ∧ Hid (RowQ enQ 57 2 (fun z => z.r) PsE ((x.ps.take k).map (fun z => z.r)) C A k c wr) ∧ Hid (AbT 34 w.heap.size wl0.heap.size wl0 wr)) (fun iv _ => x.ps.length - (intOf iv).toNat)
     case atStart => exact ⟨0, none, 0, rfl, Nat.zero_le _, KQ0, hid ⟨[], by simp only [List.take_zero, List.map_nil], rfl, own_none _ _ _ _, fun z hz => by cases hz⟩, hid (AbT.refl _ _ _ _)⟩
     case round =>
      clear KQ0
      obtain ⟨k, A2, c2, rfl, hk, KM, HQ, HT⟩ := hrel
      have hCwr := hid (show C ≤ wr.heap.size from by have := HT.out.1; have := HC.out; omega)
      have pG := KM.out.cell (b := G) (cs := pbc x) (t := 34) (by simp) (k := 6) rfl
      by_cases hlt : k < x.ps.length
      · skip
        obtain ⟨ad, y, e0, hadb, hy, hyl, hcell⟩ := Es.get (K := 2) enQ_len (by decide) (HI.out.ps.below KM.out.2 (Nat.le_refl _)) hlt
        rw [e0] at pG
        have b1 : (0 : Int) ≤ (k : Int) := by omega
        have b2 : (k : Int) < x.ps.length := by omega
        have h63 : k + 1 ≤ maxLen := by unfold maxLen; omega
        have hby : (k + 1) * 40 ≤ 140737488355328 := by omega
        have Hds := hid (take_map17 (fun z : PsA => z.r) hy.out)
        obtain ⟨i0, hi0, hz0, hz1, hz2⟩ := info_parts Tryz.inf17_person
        have Hrow := hid (fun X (hb : Below w.heap.size w X) => (show X.cell? (ad.add (k * 2)) = some (txt y.r.n) ∧ X.cell? ⟨(ad.add (k * 2)).block, (ad.add (k * 2)).off + 1, none⟩ = some (.slice y.a y.r.l.length y.c) from by
         have hq := HI.out.ps.below hb (Nat.le_refl _)
         rw [e0] at hq
         exact ⟨es_at enQ_len hq hy.out 0 _ rfl, es_fld enQ_len hq hy.out 1 (by decide) _ rfl⟩))
        have HCy := hid (HCps.out y hyl)
        clear hcell
        go_upto_region 11 with fail
        have HS1 := hid (KM.out.drew.sub (l' := [(D, [.string ⟨#[]⟩, .int .i64 0, .int .i64 0, .int .i64 0, .slice none 0 0, .slice none 0 0, .slice none 0 0, .slice none 0 0, .slice none 0 0, .slice none 0 0, .slice none 0 0, .int .i64 0, .int .i64 0, .int .i64 0, .int .i64 0], 34), (G, pbc x, 34)]) (by simp))
        have HS2 := hid (KM.out.drew.sub (l' := [(Q, [txt x.n, .int .i64 x.g.w, .int .i64 x.g.d, .int .i64 x.g.s, .slice A0 x.rm.length c0, .slice A1 x.wk.length c1, .slice A2 k c2, .slice none 0 0, .slice none 0 0, .slice none 0 0, .slice none 0 0, .int .i64 x.w0, .int .i64 x.w1, .int .i64 x.w2, .int .i64 x.w3], 34)]) (by simp))
        refine wp_region_L (S := SL (fun X => Mem w X [(D, [.string ⟨#[]⟩, .int .i64 0, .int .i64 0, .int .i64 0, .slice none 0 0, .slice none 0 0, .slice none 0 0, .slice none 0 0, .slice none 0 0, .slice none 0 0, .slice none 0 0, .int .i64 0, .int .i64 0, .int .i64 0, .int .i64 0], 34), (G, pbc x, 34)]) [(17, fun X => Mem w X [(Q, [txt x.n, .int .i64 x.g.w, .int .i64 x.g.d, .int .i64 x.g.s, .slice A0 x.rm.length c0, .slice A1 x.wk.length c1, .slice A2 k c2, .slice none 0 0, .slice none 0 0, .slice none 0 0, .slice none 0 0, .int .i64 x.w0, .int .i64 x.w1, .int .i64 x.w2, .int .i64 x.w3], 34)])]) (by kernel_rfl) (SL.one HS1.out HS2.out) (fun hHeld => ?_)
        clear hHeld
        refine takeL 0 54 (.pointer (some ⟨Q, 6, none⟩)) rfl rfl (by kernel_rfl) (by kernel_rfl) (by kernel_rfl) (by rfl) (fun _ _ _ h => h) (by kernel_rfl) (fun X hX => by clear hX; first | rfl | go_simp) (SL.one HS1.out HS2.out) ?_
        simp only [pt, List.set]
        refine takeN 1 55 (.slice A2 k c2) 17 (fun X => Mem w X [(Q, [txt x.n, .int .i64 x.g.w, .int .i64 x.g.d, .int .i64 x.g.s, .slice A0 x.rm.length c0, .slice A1 x.wk.length c1, .slice A2 k c2, .slice none 0 0, .slice none 0 0, .slice none 0 0, .slice none 0 0, .int .i64 x.w0, .int .i64 x.w1, .int .i64 x.w2, .int .i64 x.w3], 34)]) rfl rfl (by kernel_rfl) (by kernel_rfl) (by kernel_rfl) (by rfl) (by simp) (by kernel_rfl) (by kernel_rfl) (fun _ _ _ h => h) (by kernel_rfl) (fun X hX hY => by have pq := hY.cell (b := Q) (cs := [txt x.n, .int .i64 x.g.w, .int .i64 x.g.d, .int .i64 x.g.s, .slice A0 x.rm.length c0, .slice A1 x.wk.length c1, .slice A2 k c2, .slice none 0 0, .slice none 0 0, .slice none 0 0, .slice none 0 0, .int .i64 x.w0, .int .i64 x.w1, .int .i64 x.w2, .int .i64 x.w3]) (t := 34) (by simp) (k := 6) rfl; clear hX hY; go_simp) (SL.one HS1.out HS2.out) ?_
        simp only [pt, List.set]
        refine takeL 2 56 (.pointer (some ⟨G, 6, none⟩)) rfl rfl (by kernel_rfl) (by kernel_rfl) (by kernel_rfl) (by rfl) (fun _ _ _ h => h) (by kernel_rfl) (fun X hX => by clear hX; first | rfl | go_simp) (SL.one HS1.out HS2.out) ?_
        simp only [pt, List.set]
        refine takeL 3 57 (.slice (some ad) x.ps.length x.c2) rfl rfl (by kernel_rfl) (by kernel_rfl) (by kernel_rfl) (by rfl) (fun _ _ _ h => h) (by kernel_rfl) (fun X hX => by have pg := hX.cell (b := G) (cs := pbc x) (t := 34) (by simp) (k := 6) rfl; rw [e0] at pg; clear hX; go_simp) (SL.one HS1.out HS2.out) ?_
        simp only [pt, List.set]
        refine takeL 4 58 (.int .i64 k) rfl rfl (by kernel_rfl) (by kernel_rfl) (by kernel_rfl) (by rfl) (fun _ _ _ h => h) (by kernel_rfl) (fun X hX => by clear hX; first | rfl | go_simp) (SL.one HS1.out HS2.out) ?_
        simp only [pt, List.set]
        refine takeL 5 59 (.pointer (some (ad.add (k * 2)))) rfl rfl (by kernel_rfl) (by kernel_rfl) (by kernel_rfl) (by rfl) (fun _ _ _ h => h) (by kernel_rfl) (fun X hX => by clear hX; first | rfl | go_simp) (SL.one HS1.out HS2.out) ?_
        simp only [pt, List.set]
        refine takeL 6 60 (.pointer (some (ad.add (k * 2)))) rfl rfl (by kernel_rfl) (by kernel_rfl) (by kernel_rfl) (by rfl) (fun _ _ _ h => h) (by kernel_rfl) (fun X hX => by clear hX; first | rfl | go_simp) (SL.one HS1.out HS2.out) ?_
        simp only [pt, List.set]
        refine takeL 7 61 (txt y.r.n) rfl rfl (by kernel_rfl) (by kernel_rfl) (by kernel_rfl) (by rfl) (fun _ _ _ h => h) (by kernel_rfl) (fun X hX => by obtain ⟨d0, d1⟩ := Hrow.out _ hX.2; clear hX; go_simp) (SL.one HS1.out HS2.out) ?_
        simp only [pt, List.set]
        refine takeL 8 62 (.pointer (some ⟨G, 6, none⟩)) rfl rfl (by kernel_rfl) (by kernel_rfl) (by kernel_rfl) (by rfl) (fun _ _ _ h => h) (by kernel_rfl) (fun X hX => by clear hX; first | rfl | go_simp) (SL.one HS1.out HS2.out) ?_
        simp only [pt, List.set]
        refine takeL 9 63 (.slice (some ad) x.ps.length x.c2) rfl rfl (by kernel_rfl) (by kernel_rfl) (by kernel_rfl) (by rfl) (fun _ _ _ h => h) (by kernel_rfl) (fun X hX => by have pg := hX.cell (b := G) (cs := pbc x) (t := 34) (by simp) (k := 6) rfl; rw [e0] at pg; clear hX; go_simp) (SL.one HS1.out HS2.out) ?_
        simp only [pt, List.set]
        refine takeL 10 64 (.int .i64 k) rfl rfl (by kernel_rfl) (by kernel_rfl) (by kernel_rfl) (by rfl) (fun _ _ _ h => h) (by kernel_rfl) (fun X hX => by clear hX; first | rfl | go_simp) (SL.one HS1.out HS2.out) ?_
        simp only [pt, List.set]
        refine takeL 11 65 (.pointer (some (ad.add (k * 2)))) rfl rfl (by kernel_rfl) (by kernel_rfl) (by kernel_rfl) (by rfl) (fun _ _ _ h => h) (by kernel_rfl) (fun X hX => by clear hX; first | rfl | go_simp) (SL.one HS1.out HS2.out) ?_
        simp only [pt, List.set]
        refine takeL 12 66 (.pointer (some ⟨(ad.add (k * 2)).block, (ad.add (k * 2)).off + 1, none⟩)) rfl rfl (by kernel_rfl) (by kernel_rfl) (by kernel_rfl) (by rfl) (fun _ _ _ h => h) (by kernel_rfl) (fun X hX => by clear hX; first | rfl | go_simp) (SL.one HS1.out HS2.out) ?_
        simp only [pt, List.set]
        refine takeL 13 67 (.slice y.a y.r.l.length y.c) rfl rfl (by kernel_rfl) (by kernel_rfl) (by kernel_rfl) (by rfl) (fun _ _ _ h => h) (by kernel_rfl) (fun X hX => by obtain ⟨d0, d1⟩ := Hrow.out _ hX.2; clear hX; go_simp) (SL.one HS1.out HS2.out) ?_
        simp only [pt, List.set]
        refine wpAnyL_ready (rs := [14]) (by kernel_rfl) (by simp) ?_
        refine (AllReadyL.cons rfl (fun KK hK => ?_) AllReadyL.nil)
        simp only [List.getElem_toArray, List.getElem_cons_succ, List.getElem_cons_zero]
        go_simp
        refine (HCy.out _ KM.out.drew.2).mono ?_
        rintro e Y ⟨A8, n8, c8, rfl, ⟨rfl, ho⟩, bz⟩
        have K4 := hid (KM.out.drew.next bz)
        have B4 := hid (show Below wr.heap.size wr Y from ((Below.refl _ _).drew).trans bz)
        clear HS1 HS2
        have HS1 := hid (K4.out.sub (l' := [(D, [.string ⟨#[]⟩, .int .i64 0, .int .i64 0, .int .i64 0, .slice none 0 0, .slice none 0 0, .slice none 0 0, .slice none 0 0, .slice none 0 0, .slice none 0 0, .slice none 0 0, .int .i64 0, .int .i64 0, .int .i64 0, .int .i64 0], 34), (G, pbc x, 34)]) (by simp))
        have HS2 := hid (K4.out.sub (l' := [(Q, [txt x.n, .int .i64 x.g.w, .int .i64 x.g.d, .int .i64 x.g.s, .slice A0 x.rm.length c0, .slice A1 x.wk.length c1, .slice A2 k c2, .slice none 0 0, .slice none 0 0, .slice none 0 0, .slice none 0 0, .int .i64 x.w0, .int .i64 x.w1, .int .i64 x.w2, .int .i64 x.w3], 34)]) (by simp))
        refine hK.out _ _ (SL.one HS1.out HS2.out) (fun hHeld => ?_)
        clear hK KK hHeld
        try simp only [pt, List.set]
        refine takeL 15 69 (.agg #[txt y.r.n, .slice A8 y.r.l.length c8]) rfl rfl (by kernel_rfl) (by kernel_rfl) (by kernel_rfl) (by rfl) (fun _ _ _ h => h) (by kernel_rfl) (fun X hX => by clear hX; first | rfl | go_simp) (SL.one HS1.out HS2.out) ?_
        simp only [pt, List.set]
        obtain ⟨L, U3, hL, hU3, K5, b5⟩ := K4.out.one (enQ (⟨y.r, A8, c8⟩)) 57
        have B5 := hid (B4.out.trans (b5.mono B4.out.size))
        have HY5 := hid (show PsE C ⟨y.r, A8, c8⟩ U3 from own_mono (own_below ho b5) (Nat.le_trans hCwr.out (by have := B4.out.size; exact Nat.le_refl _)))
        obtain ⟨zs, hzm, hzl, O, hzE⟩ := (RowQ_ok SO.out _).keep _ _ _ _ _ _ HQ.out (Abv.of B5.out)
        have O := hid O
        have HzE := hid hzE
        have hC5 := hid (show C ≤ U3.heap.size from Nat.le_trans hCwr.out B5.out.size)
        clear hzE HQ ho bz HS1 HS2
        have HS1 := hid (K5.out.sub (l' := [(D, [.string ⟨#[]⟩, .int .i64 0, .int .i64 0, .int .i64 0, .slice none 0 0, .slice none 0 0, .slice none 0 0, .slice none 0 0, .slice none 0 0, .slice none 0 0, .slice none 0 0, .int .i64 0, .int .i64 0, .int .i64 0, .int .i64 0], 34), (G, pbc x, 34)]) (by simp))
        have HS2 := hid (K5.out.sub (l' := [(Q, [txt x.n, .int .i64 x.g.w, .int .i64 x.g.d, .int .i64 x.g.s, .slice A0 x.rm.length c0, .slice A1 x.wk.length c1, .slice A2 k c2, .slice none 0 0, .slice none 0 0, .slice none 0 0, .slice none 0 0, .int .i64 x.w0, .int .i64 x.w1, .int .i64 x.w2, .int .i64 x.w3], 34)]) (by simp))
        refine wpAnyL_ready (rs := [16]) (by kernel_rfl) (by simp) ?_
        refine (AllReadyL.cons rfl (fun KK hK => ?_) AllReadyL.nil)
        simp only [List.getElem_toArray, List.getElem_cons_succ, List.getElem_cons_zero]
        go_simp
        refine hK.out _ _ (SL.one HS1.out HS2.out) (fun hHeld => ?_)
        clear hK KK hHeld
        try simp only [pt, List.set]
        refine wpAnyL_ready (rs := [17]) (by kernel_rfl) (by simp) ?_
        refine (AllReadyL.cons rfl (fun KK hK => ?_) AllReadyL.nil)
        refine step_append_own rfl (.tmp 55) (.tmp 70) 26 rfl C 57 i0 (.agg #[.string ⟨#[]⟩, .slice none 0 0]) 2 40 Tryz.underlying26 hi0 hz0 hz1 hz2 rfl (by decide) (.slice A2 k c2) _ _ (by rfl) O.out ⟨L, 0, none⟩ 1 1 (enQ (⟨y.r, A8, c8⟩)) (by rfl) rfl (ob_cells17 (K5.out.at_ (List.mem_cons_self ..))) (one17_Person _) h63 hby hC5.out ?_
        intro v1 w5 hown2 hgrow
        obtain ⟨A9, c9, rfl, hq9⟩ := RowQ.grown (f := fun z : PsA => z.r) SO.out O.out hzm hzl HzE.out HY5.out hown2 hgrow
        have bC := (Below.refl C U3).grown hgrow hC5.out (fun k hk => (O.out.lt k hk).1)
        have K6 := hid ((K5.out.sub (l' := [(Q, [txt x.n, .int .i64 x.g.w, .int .i64 x.g.d, .int .i64 x.g.s, .slice A0 x.rm.length c0, .slice A1 x.wk.length c1, .slice A2 k c2, .slice none 0 0, .slice none 0 0, .slice none 0 0, .slice none 0 0, .int .i64 x.w0, .int .i64 x.w1, .int .i64 x.w2, .int .i64 x.w3], 34), (D, [.string ⟨#[]⟩, .int .i64 0, .int .i64 0, .int .i64 0, .slice none 0 0, .slice none 0 0, .slice none 0 0, .slice none 0 0, .slice none 0 0, .slice none 0 0, .slice none 0 0, .int .i64 0, .int .i64 0, .int .i64 0, .int .i64 0], 34), (G, pbc x, 34)]) (by simp)).grown17 bC HGC.out.1 (by simp only [List.mem_cons, List.not_mem_nil, or_false]; have := HGC.out; rintro p (rfl | rfl | rfl) <;> (simp only; omega)))
        clear HS1 HS2
        have HS1 := hid (K6.out.sub (l' := [(D, [.string ⟨#[]⟩, .int .i64 0, .int .i64 0, .int .i64 0, .slice none 0 0, .slice none 0 0, .slice none 0 0, .slice none 0 0, .slice none 0 0, .slice none 0 0, .slice none 0 0, .int .i64 0, .int .i64 0, .int .i64 0, .int .i64 0], 34), (G, pbc x, 34)]) (by simp))
        refine hK.out _ _ (SL.past HS1.out (by kernel_rfl)) (fun hHeld => ?_)
        clear hK KK hHeld
        try simp only [Act.put, List.setIfInBounds_toArray]
        refine takeL 18 72 (.pointer (some ⟨Q, 6, none⟩)) rfl rfl (by kernel_rfl) (by kernel_rfl) (by kernel_rfl) (by rfl) (fun _ _ _ h => h) (by kernel_rfl) (fun X hX => by clear hX; first | rfl | go_simp) (SL.past HS1.out (by kernel_rfl)) ?_
        simp only [Act.put]
        have fq := (K6.out.at_ (b := Q) (cs := [txt x.n, .int .i64 x.g.w, .int .i64 x.g.d, .int .i64 x.g.s, .slice A0 x.rm.length c0, .slice A1 x.wk.length c1, .slice A2 k c2, .slice none 0 0, .slice none 0 0, .slice none 0 0, .slice none 0 0, .int .i64 x.w0, .int .i64 x.w1, .int .i64 x.w2, .int .i64 x.w3]) (t := 34) (by simp)).free 6
        have yq := K6.out.cell (b := Q) (cs := [txt x.n, .int .i64 x.g.w, .int .i64 x.g.d, .int .i64 x.g.s, .slice A0 x.rm.length c0, .slice A1 x.wk.length c1, .slice A2 k c2, .slice none 0 0, .slice none 0 0, .slice none 0 0, .slice none 0 0, .int .i64 x.w0, .int .i64 x.w1, .int .i64 x.w2, .int .i64 x.w3]) (t := 34) (by simp) (k := 6) rfl
        obtain ⟨U6, hU6⟩ : ∃ X, w5.setCell ⟨Q, 6, none⟩ (.slice A9 (k + 1) c9) = X := ⟨_, rfl⟩
        have K7 := hid (show Mem w U6 [(Q, [txt x.n, .int .i64 x.g.w, .int .i64 x.g.d, .int .i64 x.g.s, .slice A0 x.rm.length c0, .slice A1 x.wk.length c1, .slice A9 (k + 1) c9, .slice none 0 0, .slice none 0 0, .slice none 0 0, .slice none 0 0, .int .i64 x.w0, .int .i64 x.w1, .int .i64 x.w2, .int .i64 x.w3], 34), (D, [.string ⟨#[]⟩, .int .i64 0, .int .i64 0, .int .i64 0, .slice none 0 0, .slice none 0 0, .slice none 0 0, .slice none 0 0, .slice none 0 0, .slice none 0 0, .slice none 0 0, .int .i64 0, .int .i64 0, .int .i64 0, .int .i64 0], 34), (G, pbc x, 34)] from hU6 ▸ K6.out.set HGQ.out.2.2.1 HNE.out 6 _)
        have hab := AbT.set (b := w.heap.size) (C := w5.heap.size) w5 (K6.out.at_ (b := Q) (cs := [txt x.n, .int .i64 x.g.w, .int .i64 x.g.d, .int .i64 x.g.s, .slice A0 x.rm.length c0, .slice A1 x.wk.length c1, .slice A2 k c2, .slice none 0 0, .slice none 0 0, .slice none 0 0, .slice none 0 0, .int .i64 x.w0, .int .i64 x.w1, .int .i64 x.w2, .int .i64 x.w3]) (t := 34) (by simp)) 6 (.slice A9 (k + 1) c9)
        have HQ7 := hid (show RowQ enQ 57 2 (fun z => z.r) PsE ((x.ps.take (k + 1)).map (fun z => z.r)) C A9 (k + 1) c9 U6 from by rw [Hds.out]; exact hU6 ▸ RowQ.abt (by decide) (OwE_t (by decide)) hq9 (hab.up HGC.out.1))
        have hCw := HC.out
        have HT7 := hid (show AbT 34 w.heap.size wl0.heap.size wl0 U6 from (HT.out.trans (AbT.of ((B5.out.mono (Nat.le_trans (Nat.le_of_eq hCw) hCwr.out)).trans (bC.mono (Nat.le_of_eq hCw))))).trans (hU6 ▸ hab.less (by have := bC.size; have := hC5.out; omega)))
        clear hown2 hgrow bC hq9 hab hCw
        refine wpAnyL_ready (rs := [19]) (by kernel_rfl) (by simp) ?_
        refine (AllReadyL.cons rfl (fun KK hK => ?_) AllReadyL.nil)
        simp only [List.getElem_toArray, List.getElem_cons_succ, List.getElem_cons_zero]
        go_simp
        refine hK.out _ _ (SL.past (K7.out.sub (l' := [(D, [.string ⟨#[]⟩, .int .i64 0, .int .i64 0, .int .i64 0, .slice none 0 0, .slice none 0 0, .slice none 0 0, .slice none 0 0, .slice none 0 0, .slice none 0 0, .slice none 0 0, .int .i64 0, .int .i64 0, .int .i64 0, .int .i64 0], 34), (G, pbc x, 34)]) (by simp)) (by kernel_rfl)) (fun hHeld => ?_)
        clear hK KK hHeld
        try simp only [pt, List.set]
        refine wpAnyL_done (by kernel_rfl) ?_ _
        go_wp2_with fail
        exact ⟨⟨k + 1, A9, c9, by go_num, by omega, K7, HQ7, HT7⟩, by simp [intOf]; omega⟩
      · obtain rfl : k = x.ps.length := by omega
        have aH := AH.out
        clear AH
        have b2 : ¬ (x.ps.length : Int) < x.ps.length := by omega
        rw [List.take_length] at HQ
        replace HF1 := hid (RowQ.abt (t := 34) (by decide) (OwE_t (by decide)) HF1.out HT.out)
        replace HF0 := hid (RowQ.abt (t := 34) (by decide) (OwE_t (by decide)) HF0.out HT.out)
        have HF2 := hid ((RowQ_ok SO.out _).low _ _ _ _ _ _ HQ.out HGC.out.1)
        clear HQ HT HC HGC hCwr SO
        have KQ2 := KM
        clear KM
        obtain ⟨wl2, hwl⟩ : ∃ X, X = wr := ⟨_, rfl⟩
        subst hwl
        obtain ⟨C, hC⟩ : ∃ C, wl2.heap.size = C := ⟨_, rfl⟩
        have HC := hid hC
        have HGC := hid (show w.heap.size ≤ C ∧ G < C ∧ D < C ∧ Q < C from by
         have h1 := (KQ2.out.at_ (b := G) (cs := pbc x) (t := 34) (by simp)).lt
         have h2 := (KQ2.out.at_ (b := D) (cs := [.string ⟨#[]⟩, .int .i64 0, .int .i64 0, .int .i64 0, .slice none 0 0, .slice none 0 0, .slice none 0 0, .slice none 0 0, .slice none 0 0, .slice none 0 0, .slice none 0 0, .int .i64 0, .int .i64 0, .int .i64 0, .int .i64 0]) (t := 34) (by simp)).lt
         have h3 := (KQ2.out.at_ (b := Q) (cs := [txt x.n, .int .i64 x.g.w, .int .i64 x.g.d, .int .i64 x.g.s, .slice A0 x.rm.length c0, .slice A1 x.wk.length c1, .slice A2 x.ps.length c2, .slice none 0 0, .slice none 0 0, .slice none 0 0, .slice none 0 0, .int .i64 x.w0, .int .i64 x.w1, .int .i64 x.w2, .int .i64 x.w3]) (t := 34) (by simp)).lt
         have h4 := KQ2.out.2.size
         omega)
        clear hC
        have SO := hid (show ElOk ClE 62 7 from ClE_ok (by decide) (by decide) (by decide))
        go_wp2_with fail
        clear pG hlt hk b2
        rename_i a1 Kx a2
        clear a1
        try clear aH
        have AH := hid a2
        clear a2
        go_loopw [7] (fun iv wr => ∃ (k : Nat) (A : Option Addr) (c : Nat), iv = .int .i64 ((k : Nat) : Int) ∧ k ≤ x.cl.length ∧ Hid (Mem w wr [(Q, [txt x.n, .int .i64 x.g.w, .int .i64 x.g.d, .int .i64 x.g.s, .slice A0 x.rm.length c0, .slice A1 x.wk.length c1, .slice A2 x.ps.length c2, .slice A k c, .slice none 0 0, .slice none 0 0, .slice none 0 0, .int .i64 x.w0, .int .i64 x.w1, .int .i64 x.w2, .int .i64 x.w3], 34), (D, [.string ⟨#[]⟩, .int .i64 0, .int .i64 0, .int .i64 0, .slice none 0 0, .slice none 0 0, .slice none 0 0, .slice none 0 0, .slice none 0 0, .slice none 0 0, .slice none 0 0, .int .i64 0, .int .i64 0, .int .i64 0, .int .i64 0], 34), (G, pbc x, 34)]) ∧ Hid (RowQ enC 62 7 (fun z => z.x) ClE ((x.cl.take k).map (fun z => z.x)) C A k c wr) ∧ Hid (AbT 34 w.heap.size wl2.heap.size wl2 wr)) (fun iv _ => x.cl.length - (intOf iv).toNat)
        case atStart => exact ⟨0, none, 0, rfl, Nat.zero_le _, KQ2, hid ⟨[], by simp only [List.take_zero, List.map_nil], rfl, own_none _ _ _ _, fun z hz => by cases hz⟩, hid (AbT.refl _ _ _ _)⟩
        case round =>
         clear KQ2
         obtain ⟨k, A3, c3, rfl, hk, KM, HQ, HT⟩ := hrel
         have hCwr := hid (show C ≤ wr.heap.size from by have := HT.out.1; have := HC.out; omega)
         have pG := KM.out.cell (b := G) (cs := pbc x) (t := 34) (by simp) (k := 7) rfl
         by_cases hlt : k < x.cl.length
         · skip
           obtain ⟨ad, y, e0, hadb, hy, hyl, hcell⟩ := Es.get (K := 7) enC_len (by decide) (HI.out.cl.below KM.out.2 (Nat.le_refl _)) hlt
           rw [e0] at pG
           have b1 : (0 : Int) ≤ (k : Int) := by omega
           have b2 : (k : Int) < x.cl.length := by omega
           have h63 : k + 1 ≤ maxLen := by unfold maxLen; omega
           have hby : (k + 1) * 112 ≤ 140737488355328 := by omega
           have Hds := hid (take_map17 (fun z : ClA => z.x) hy.out)
           obtain ⟨i0, hi0, hz0, hz1, hz2⟩ := info_parts Tryz.inf17_class
           have d0 := hcell 0 _ rfl
           rw [Nat.add_zero] at d0
           have d1 := hcell 1 _ rfl
           rw [add_add _ _ _ (by omega)] at d1
           have d2 := hcell 2 _ rfl
           rw [add_add _ _ _ (by omega)] at d2
           have d3 := hcell 3 _ rfl
           rw [add_add _ _ _ (by omega)] at d3
           have d4 := hcell 4 _ rfl
           rw [add_add _ _ _ (by omega)] at d4
           have d5 := hcell 5 _ rfl
           rw [add_add _ _ _ (by omega)] at d5
           have d6 := hcell 6 _ rfl
           rw [add_add _ _ _ (by omega)] at d6
           obtain ⟨R, U, hR, hU, K2, hb2⟩ := KM.out.one [.string ⟨#[]⟩, .int .i64 0, .int .u16 0, .slice none 0 0, .slice none 0 0, .slice none 0 0, .int .i64 0] 62
           have HRw := hid (show w.heap.size ≤ R ∧ C ≤ R ∧ Q < R ∧ D < R ∧ G < R from by have := HGC.out; have := hCwr.out; omega)
           have HRN := hid (show ∀ p ∈ ([(Q, [txt x.n, .int .i64 x.g.w, .int .i64 x.g.d, .int .i64 x.g.s, .slice A0 x.rm.length c0, .slice A1 x.wk.length c1, .slice A2 x.ps.length c2, .slice A3 k c3, .slice none 0 0, .slice none 0 0, .slice none 0 0, .int .i64 x.w0, .int .i64 x.w1, .int .i64 x.w2, .int .i64 x.w3], 34), (D, [.string ⟨#[]⟩, .int .i64 0, .int .i64 0, .int .i64 0, .slice none 0 0, .slice none 0 0, .slice none 0 0, .slice none 0 0, .slice none 0 0, .slice none 0 0, .slice none 0 0, .int .i64 0, .int .i64 0, .int .i64 0, .int .i64 0], 34), (G, pbc x, 34)] : Obs), p.1 ≠ R from by simp only [List.mem_cons, List.not_mem_nil, or_false]; have := HRw.out; rintro p (rfl | rfl | rfl) <;> (simp only [ne_eq]; omega))
           have gz := (K2.out.at_ (b := R) (cs := [.string ⟨#[]⟩, .int .i64 0, .int .u16 0, .slice none 0 0, .slice none 0 0, .slice none 0 0, .int .i64 0]) (t := 62) (by simp)).free
           have f20 := gz 0
           have z20 := K2.out.cell (b := R) (cs := [.string ⟨#[]⟩, .int .i64 0, .int .u16 0, .slice none 0 0, .slice none 0 0, .slice none 0 0, .int .i64 0]) (t := 62) (by simp) (k := 0) rfl
           have f21 := gz 1
           have z21 := K2.out.cell (b := R) (cs := [.string ⟨#[]⟩, .int .i64 0, .int .u16 0, .slice none 0 0, .slice none 0 0, .slice none 0 0, .int .i64 0]) (t := 62) (by simp) (k := 1) rfl
           have f22 := gz 2
           have z22 := K2.out.cell (b := R) (cs := [.string ⟨#[]⟩, .int .i64 0, .int .u16 0, .slice none 0 0, .slice none 0 0, .slice none 0 0, .int .i64 0]) (t := 62) (by simp) (k := 2) rfl
           have f23 := gz 3
           have z23 := K2.out.cell (b := R) (cs := [.string ⟨#[]⟩, .int .i64 0, .int .u16 0, .slice none 0 0, .slice none 0 0, .slice none 0 0, .int .i64 0]) (t := 62) (by simp) (k := 3) rfl
           have f24 := gz 4
           have z24 := K2.out.cell (b := R) (cs := [.string ⟨#[]⟩, .int .i64 0, .int .u16 0, .slice none 0 0, .slice none 0 0, .slice none 0 0, .int .i64 0]) (t := 62) (by simp) (k := 4) rfl
           have f25 := gz 5
           have z25 := K2.out.cell (b := R) (cs := [.string ⟨#[]⟩, .int .i64 0, .int .u16 0, .slice none 0 0, .slice none 0 0, .slice none 0 0, .int .i64 0]) (t := 62) (by simp) (k := 5) rfl
           have f26 := gz 6
           have z26 := K2.out.cell (b := R) (cs := [.string ⟨#[]⟩, .int .i64 0, .int .u16 0, .slice none 0 0, .slice none 0 0, .slice none 0 0, .int .i64 0]) (t := 62) (by simp) (k := 6) rfl
           clear gz
           obtain ⟨U2, hU2⟩ : ∃ U2, (((((((U.setCell ⟨R, 0, none⟩ (txt y.x.n)).setCell ⟨R, 1, none⟩ (.int .i64 y.x.s)).setCell ⟨R, 2, none⟩ (.int .u16 (y.x.g : Int))).setCell ⟨R, 3, none⟩ (.slice y.r.a y.x.p.length y.r.ac)).setCell ⟨R, 4, none⟩ (.slice y.r.b y.x.t.length y.r.bc)).setCell ⟨R, 5, none⟩ (.slice y.r.c y.x.l.length y.r.cc)).setCell ⟨R, 6, none⟩ (.int .i64 y.x.o)) = U2 := ⟨_, rfl⟩
           have K3 := hid (show Mem w U2 [(R, enC y, 62), (Q, [txt x.n, .int .i64 x.g.w, .int .i64 x.g.d, .int .i64 x.g.s, .slice A0 x.rm.length c0, .slice A1 x.wk.length c1, .slice A2 x.ps.length c2, .slice A3 k c3, .slice none 0 0, .slice none 0 0, .slice none 0 0, .int .i64 x.w0, .int .i64 x.w1, .int .i64 x.w2, .int .i64 x.w3], 34), (D, [.string ⟨#[]⟩, .int .i64 0, .int .i64 0, .int .i64 0, .slice none 0 0, .slice none 0 0, .slice none 0 0, .slice none 0 0, .slice none 0 0, .slice none 0 0, .slice none 0 0, .int .i64 0, .int .i64 0, .int .i64 0, .int .i64 0], 34), (G, pbc x, 34)] from hU2 ▸ (((((((K2.out.set HRw.out.1 HRN.out 0 (txt y.x.n)).set HRw.out.1 HRN.out 1 (.int .i64 y.x.s)).set HRw.out.1 HRN.out 2 (.int .u16 (y.x.g : Int))).set HRw.out.1 HRN.out 3 (.slice y.r.a y.x.p.length y.r.ac)).set HRw.out.1 HRN.out 4 (.slice y.r.b y.x.t.length y.r.bc)).set HRw.out.1 HRN.out 5 (.slice y.r.c y.x.l.length y.r.cc)).set HRw.out.1 HRN.out 6 (.int .i64 y.x.o)))
           have B3 := hid (show Below wr.heap.size wr U2 from hU2 ▸ (((((((hb2.setCell (p := ⟨R, 0, none⟩) (Nat.le_of_eq hR) (txt y.x.n)).setCell (p := ⟨R, 1, none⟩) (Nat.le_of_eq hR) (.int .i64 y.x.s)).setCell (p := ⟨R, 2, none⟩) (Nat.le_of_eq hR) (.int .u16 (y.x.g : Int))).setCell (p := ⟨R, 3, none⟩) (Nat.le_of_eq hR) (.slice y.r.a y.x.p.length y.r.ac)).setCell (p := ⟨R, 4, none⟩) (Nat.le_of_eq hR) (.slice y.r.b y.x.t.length y.r.bc)).setCell (p := ⟨R, 5, none⟩) (Nat.le_of_eq hR) (.slice y.r.c y.x.l.length y.r.cc)).setCell (p := ⟨R, 6, none⟩) (Nat.le_of_eq hR) (.int .i64 y.x.o)))
           have HRr := hid (Nat.le_of_eq hR)
           have HU2 := hid (show R < U2.heap.size from (K3.out.at_ (b := R) (cs := enC y) (t := 62) (by simp)).lt)
           clear hcell hb2 K2
           go_upto_region 16 with fail
           go_cut [] (fun wx => ∃ A6 c6 A7 c7 A8 c8, Hid (Mem w wx [(R, enC ⟨y.x, ⟨A6, c6, A7, c7, A8, c8⟩⟩, 62), (Q, [txt x.n, .int .i64 x.g.w, .int .i64 x.g.d, .int .i64 x.g.s, .slice A0 x.rm.length c0, .slice A1 x.wk.length c1, .slice A2 x.ps.length c2, .slice A3 k c3, .slice none 0 0, .slice none 0 0, .slice none 0 0, .int .i64 x.w0, .int .i64 x.w1, .int .i64 x.w2, .int .i64 x.w3], 34), (D, [.string ⟨#[]⟩, .int .i64 0, .int .i64 0, .int .i64 0, .slice none 0 0, .slice none 0 0, .slice none 0 0, .slice none 0 0, .slice none 0 0, .slice none 0 0, .slice none 0 0, .int .i64 0, .int .i64 0, .int .i64 0, .int .i64 0], 34), (G, pbc x, 34)]) ∧ Hid (ClE C ⟨y.x, ⟨A6, c6, A7, c7, A8, c8⟩⟩ wx) ∧ Hid (Below wr.heap.size wr wx))
           case first =>
            clear hU hR hU2 pG d0 d1 d2 d3 d4 d5 d6 f20 z20 f21 z21 f22 z22 f23 z23 f24 z24 f25 z25 f26 z26
            obtain ⟨B, hB⟩ : ∃ B, U2.heap.size = B := ⟨_, rfl⟩
            have HB := hid hB
            have hUB := hid (Nat.le_of_eq hB.symm)
            have HBR := hid (show w.heap.size ≤ B ∧ R < B ∧ Q < B ∧ D < B ∧ G < B ∧ C ≤ B from by have := HU2.out; have := HRw.out; omega)
            clear hB
            have hY := HI.out.clI y hyl
            have HT_ := hid (hY.2.1.2.1)
            have HP_ := hid (hY.2.1.2.2)
            have hB1 := (HBcl.out y hyl).1
            have hB2 := (HBcl.out y hyl).2
            have t1 : 0 + y.x.t.length ≤ maxLen := by unfold maxLen; omega
            have t2 : (0 + y.x.t.length) * 32 ≤ 140737488355328 := by omega
            have l1 : 0 + y.x.l.length ≤ maxLen := by unfold maxLen; omega
            have l2 : (0 + y.x.l.length) * 16 ≤ 140737488355328 := by omega
            have HSt := hid (fun X (hX : Below w.heap.size w X) => src_es17 (K := 5) (fun _ => rfl) (by decide) one_Times (P := Tryz.prog) X Tryz.underlying59 (c := y.r.bc) rfl (HT_.out.below hX (Nat.le_refl _)))
            have HSl := hid (fun X (hX : Below w.heap.size w X) => src_es17 (K := 2) (fun _ => rfl) (by decide) one_Places (P := Tryz.prog) X Tryz.underlying60 (c := y.r.cc) rfl (HP_.out.below hX (Nat.le_refl _)))
            have HCy := hid (HCcl.out y hyl)
            obtain ⟨it, hit, hzt0, hzt1, hzt2⟩ := info_parts Tryz.info17_time
            obtain ⟨ip, hip, hzp0, hzp1, hzp2⟩ := info_parts Tryz.info17_place
            clear hY hB1 hB2 HT_ HP_
            have HS := hid K3.out.drew
            have OW := hid (show Below B U2 U2.drew from (Below.refl _ _).drew)
            refine wp_region_L (S := SL (fun _ => True) [(2, fun X => Mem w X [(R, enC y, 62), (Q, [txt x.n, .int .i64 x.g.w, .int .i64 x.g.d, .int .i64 x.g.s, .slice A0 x.rm.length c0, .slice A1 x.wk.length c1, .slice A2 x.ps.length c2, .slice A3 k c3, .slice none 0 0, .slice none 0 0, .slice none 0 0, .int .i64 x.w0, .int .i64 x.w1, .int .i64 x.w2, .int .i64 x.w3], 34), (D, [.string ⟨#[]⟩, .int .i64 0, .int .i64 0, .int .i64 0, .slice none 0 0, .slice none 0 0, .slice none 0 0, .slice none 0 0, .slice none 0 0, .slice none 0 0, .slice none 0 0, .int .i64 0, .int .i64 0, .int .i64 0, .int .i64 0], 34), (G, pbc x, 34)]), (6, fun X => Mem w X [(R, enC y, 62), (Q, [txt x.n, .int .i64 x.g.w, .int .i64 x.g.d, .int .i64 x.g.s, .slice A0 x.rm.length c0, .slice A1 x.wk.length c1, .slice A2 x.ps.length c2, .slice A3 k c3, .slice none 0 0, .slice none 0 0, .slice none 0 0, .int .i64 x.w0, .int .i64 x.w1, .int .i64 x.w2, .int .i64 x.w3], 34), (D, [.string ⟨#[]⟩, .int .i64 0, .int .i64 0, .int .i64 0, .slice none 0 0, .slice none 0 0, .slice none 0 0, .slice none 0 0, .slice none 0 0, .slice none 0 0, .slice none 0 0, .int .i64 0, .int .i64 0, .int .i64 0, .int .i64 0], 34), (G, pbc x, 34)]), (10, fun X => Mem w X [(R, enC y, 62), (Q, [txt x.n, .int .i64 x.g.w, .int .i64 x.g.d, .int .i64 x.g.s, .slice A0 x.rm.length c0, .slice A1 x.wk.length c1, .slice A2 x.ps.length c2, .slice A3 k c3, .slice none 0 0, .slice none 0 0, .slice none 0 0, .int .i64 x.w0, .int .i64 x.w1, .int .i64 x.w2, .int .i64 x.w3], 34), (D, [.string ⟨#[]⟩, .int .i64 0, .int .i64 0, .int .i64 0, .slice none 0 0, .slice none 0 0, .slice none 0 0, .slice none 0 0, .slice none 0 0, .slice none 0 0, .slice none 0 0, .int .i64 0, .int .i64 0, .int .i64 0, .int .i64 0], 34), (G, pbc x, 34)])]) (by kernel_rfl) (SL.one3 trivial HS.out) (fun hHeld => ?_)
            clear hHeld
            generalize U2.drew = V0 at HS OW ⊢
            refine takeL 0 85 (.pointer (some ⟨R, 3, none⟩)) rfl rfl (by kernel_rfl) (by kernel_rfl) (by kernel_rfl) (by rfl) (fun _ _ _ h => h) (by kernel_rfl) (fun X hX => by clear hX; first | rfl | go_simp) (SL.one3 trivial HS.out) ?_
            simp only [pt, List.set]
            refine takeN 1 86 (.slice y.r.a y.x.p.length y.r.ac) 2 (fun X => Mem w X [(R, enC y, 62), (Q, [txt x.n, .int .i64 x.g.w, .int .i64 x.g.d, .int .i64 x.g.s, .slice A0 x.rm.length c0, .slice A1 x.wk.length c1, .slice A2 x.ps.length c2, .slice A3 k c3, .slice none 0 0, .slice none 0 0, .slice none 0 0, .int .i64 x.w0, .int .i64 x.w1, .int .i64 x.w2, .int .i64 x.w3], 34), (D, [.string ⟨#[]⟩, .int .i64 0, .int .i64 0, .int .i64 0, .slice none 0 0, .slice none 0 0, .slice none 0 0, .slice none 0 0, .slice none 0 0, .slice none 0 0, .slice none 0 0, .int .i64 0, .int .i64 0, .int .i64 0, .int .i64 0], 34), (G, pbc x, 34)]) rfl rfl (by kernel_rfl) (by kernel_rfl) (by kernel_rfl) (by rfl) (by simp) (by kernel_rfl) (by kernel_rfl) (fun _ _ _ h => h) (by kernel_rfl) (fun X hX hY => by have pq := hY.cell (b := R) (cs := enC y) (t := 62) (by simp) (k := 3) rfl; clear hX hY; go_simp) (SL.one3 trivial HS.out) ?_
            simp only [pt, List.set]
            refine takeL 4 89 (.pointer (some ⟨R, 4, none⟩)) rfl rfl (by kernel_rfl) (by kernel_rfl) (by kernel_rfl) (by rfl) (fun _ _ _ h => h) (by kernel_rfl) (fun X hX => by clear hX; first | rfl | go_simp) (SL.one3 trivial HS.out) ?_
            simp only [pt, List.set]
            refine takeN 5 90 (.slice y.r.b y.x.t.length y.r.bc) 6 (fun X => Mem w X [(R, enC y, 62), (Q, [txt x.n, .int .i64 x.g.w, .int .i64 x.g.d, .int .i64 x.g.s, .slice A0 x.rm.length c0, .slice A1 x.wk.length c1, .slice A2 x.ps.length c2, .slice A3 k c3, .slice none 0 0, .slice none 0 0, .slice none 0 0, .int .i64 x.w0, .int .i64 x.w1, .int .i64 x.w2, .int .i64 x.w3], 34), (D, [.string ⟨#[]⟩, .int .i64 0, .int .i64 0, .int .i64 0, .slice none 0 0, .slice none 0 0, .slice none 0 0, .slice none 0 0, .slice none 0 0, .slice none 0 0, .slice none 0 0, .int .i64 0, .int .i64 0, .int .i64 0, .int .i64 0], 34), (G, pbc x, 34)]) rfl rfl (by kernel_rfl) (by kernel_rfl) (by kernel_rfl) (by rfl) (by simp) (by kernel_rfl) (by kernel_rfl) (fun _ _ _ h => h) (by kernel_rfl) (fun X hX hY => by have pq := hY.cell (b := R) (cs := enC y) (t := 62) (by simp) (k := 4) rfl; clear hX hY; go_simp) (SL.one3 trivial HS.out) ?_
            simp only [pt, List.set]
            refine takeL 8 93 (.pointer (some ⟨R, 5, none⟩)) rfl rfl (by kernel_rfl) (by kernel_rfl) (by kernel_rfl) (by rfl) (fun _ _ _ h => h) (by kernel_rfl) (fun X hX => by clear hX; first | rfl | go_simp) (SL.one3 trivial HS.out) ?_
            simp only [pt, List.set]
            refine takeN 9 94 (.slice y.r.c y.x.l.length y.r.cc) 10 (fun X => Mem w X [(R, enC y, 62), (Q, [txt x.n, .int .i64 x.g.w, .int .i64 x.g.d, .int .i64 x.g.s, .slice A0 x.rm.length c0, .slice A1 x.wk.length c1, .slice A2 x.ps.length c2, .slice A3 k c3, .slice none 0 0, .slice none 0 0, .slice none 0 0, .int .i64 x.w0, .int .i64 x.w1, .int .i64 x.w2, .int .i64 x.w3], 34), (D, [.string ⟨#[]⟩, .int .i64 0, .int .i64 0, .int .i64 0, .slice none 0 0, .slice none 0 0, .slice none 0 0, .slice none 0 0, .slice none 0 0, .slice none 0 0, .slice none 0 0, .int .i64 0, .int .i64 0, .int .i64 0, .int .i64 0], 34), (G, pbc x, 34)]) rfl rfl (by kernel_rfl) (by kernel_rfl) (by kernel_rfl) (by rfl) (by simp) (by kernel_rfl) (by kernel_rfl) (fun _ _ _ h => h) (by kernel_rfl) (fun X hX hY => by have pq := hY.cell (b := R) (cs := enC y) (t := 62) (by simp) (k := 5) rfl; clear hX hY; go_simp) (SL.one3 trivial HS.out) ?_
            simp only [pt, List.set]
            refine wpAnyL_ready (rs := [2, 3, 7]) (by kernel_rfl) (by simp) ?_
            refine (AllReadyL.cons rfl (fun KK hK => ?_) (AllReadyL.cons rfl (fun KK hK => ?_) (AllReadyL.cons rfl (fun KK hK => ?_) AllReadyL.nil)))
            · skip
              simp only [List.getElem_toArray, List.getElem_cons_succ, List.getElem_cons_zero]
              go_simp
              refine (HCy.out _ HS.out.2).mono ?_
              rintro e Y ⟨A6, n6, c6, rfl, ⟨rfl, ho⟩, bz⟩
              have oi := hid (own_mono ho (show B ≤ _ from Nat.le_trans hUB.out OW.out.size))
              replace HS := hid (HS.out.next bz)
              replace OW := hid (OW.out.trans (bz.mono (Nat.le_trans hUB.out OW.out.size)))
              clear ho bz
              refine hK.out _ _ (SL.one3 trivial HS.out) (fun hHeld => ?_)
              clear hK KK hHeld
              try simp only [pt, List.set]
              refine takeL 11 96 (.pointer (some ⟨R, 3, none⟩)) rfl rfl (by kernel_rfl) (by kernel_rfl) (by kernel_rfl) (by rfl) (fun _ _ _ h => h) (by kernel_rfl) (fun X hX => by clear hX; first | rfl | go_simp) (SL.one3 trivial HS.out) ?_
              simp only [pt, List.set]
              refine wpAnyL_ready (rs := [3, 7]) (by kernel_rfl) (by simp) ?_
              refine (AllReadyL.cons rfl (fun KK hK => ?_) (AllReadyL.cons rfl (fun KK hK => ?_) AllReadyL.nil))
              · skip
                simp only [List.getElem_toArray, List.getElem_cons_succ, List.getElem_cons_zero]
                obtain ⟨L3, V, hL3, hV, KV, bV⟩ := HS.out.one [] 122
                replace oi := hid (own_below oi.out bV)
                have ot := hid (show V.ownsRow B 122 5 (.slice (some ⟨L3, 0, none⟩) 0 0) 0 [] from by rw [← hV, ← hL3]; exact World.ownsRow_lit (base := B) (e := 122) (size := 5) _ #[] 0 (Nat.le_trans hUB.out OW.out.size) (by unfold maxLen; omega) (by rw [Nat.zero_mul]; rfl))
                replace HS := hid (KV.out.sub (l' := [(R, enC y, 62), (Q, [txt x.n, .int .i64 x.g.w, .int .i64 x.g.d, .int .i64 x.g.s, .slice A0 x.rm.length c0, .slice A1 x.wk.length c1, .slice A2 x.ps.length c2, .slice A3 k c3, .slice none 0 0, .slice none 0 0, .slice none 0 0, .int .i64 x.w0, .int .i64 x.w1, .int .i64 x.w2, .int .i64 x.w3], 34), (D, [.string ⟨#[]⟩, .int .i64 0, .int .i64 0, .int .i64 0, .slice none 0 0, .slice none 0 0, .slice none 0 0, .slice none 0 0, .slice none 0 0, .slice none 0 0, .slice none 0 0, .int .i64 0, .int .i64 0, .int .i64 0, .int .i64 0], 34), (G, pbc x, 34)]) (by simp))
                replace OW := hid (OW.out.trans (bV.mono (Nat.le_trans hUB.out OW.out.size)))
                go_simp
                clear KV bV
                refine hK.out _ _ (SL.one3 trivial HS.out) (fun hHeld => ?_)
                clear hK KK hHeld
                try simp only [pt, List.set]
                clear hV hL3
                refine wpAnyL_ready (rs := [6, 7]) (by kernel_rfl) (by simp) ?_
                refine (AllReadyL.cons rfl (fun KK hK => ?_) (AllReadyL.cons rfl (fun KK hK => ?_) AllReadyL.nil))
                · skip
                  refine step_append_srcN rfl (.tmp 88) (.tmp 90) 59 59 rfl B 122 it (.agg #[.int .u32 0, .int .u8 0, .int .i64 0, .int .i64 0, .int .i64 0]) 5 32 Tryz.underlying59 hit hzt0 hzt1 hzt2 rfl _ _ _ (by rfl) ot.out _ _ _ (by rfl) (HSt.out _ HS.out.2) t1 t2 (Nat.le_trans hUB.out OW.out.size) ?_
                  intro v6 w5 hown hgrow
                  have bC := (Below.refl B _).grown hgrow (Nat.le_trans hUB.out OW.out.size) (fun k hk => (ot.out.lt k hk).1)
                  replace oi := hid (own_grown17 oi.out ot.out (by decide) hgrow)
                  rw [Nat.zero_add] at hown
                  replace ot := hid hown
                  replace HS := hid (HS.out.grown17 bC HBR.out.1 (by simp only [List.mem_cons, List.not_mem_nil, or_false]; have := HBR.out; rintro p (rfl | rfl | rfl | rfl) <;> (simp only; omega)))
                  replace OW := hid (OW.out.trans bC)
                  clear hown hgrow bC
                  refine hK.out _ _ (SL.one3 trivial HS.out) (fun hHeld => ?_)
                  clear hK KK hHeld
                  (try simp only [Act.put]); (try simp only [List.setIfInBounds_toArray])
                  refine wpAnyL_ready (rs := [7]) (by kernel_rfl) (by simp) ?_
                  refine (AllReadyL.cons rfl (fun KK hK => ?_) AllReadyL.nil)
                  · skip
                    simp only [List.getElem_toArray, List.getElem_cons_succ, List.getElem_cons_zero]
                    obtain ⟨L7, V, hL7, hV, KV, bV⟩ := HS.out.one [] 124
                    replace oi := hid (own_below oi.out bV)
                    replace ot := hid (own_below ot.out bV)
                    have op := hid (show V.ownsRow B 124 2 (.slice (some ⟨L7, 0, none⟩) 0 0) 0 [] from by rw [← hV, ← hL7]; exact World.ownsRow_lit (base := B) (e := 124) (size := 2) _ #[] 0 (Nat.le_trans hUB.out OW.out.size) (by unfold maxLen; omega) (by rw [Nat.zero_mul]; rfl))
                    replace HS := hid (KV.out.sub (l' := [(R, enC y, 62), (Q, [txt x.n, .int .i64 x.g.w, .int .i64 x.g.d, .int .i64 x.g.s, .slice A0 x.rm.length c0, .slice A1 x.wk.length c1, .slice A2 x.ps.length c2, .slice A3 k c3, .slice none 0 0, .slice none 0 0, .slice none 0 0, .int .i64 x.w0, .int .i64 x.w1, .int .i64 x.w2, .int .i64 x.w3], 34), (D, [.string ⟨#[]⟩, .int .i64 0, .int .i64 0, .int .i64 0, .slice none 0 0, .slice none 0 0, .slice none 0 0, .slice none 0 0, .slice none 0 0, .slice none 0 0, .slice none 0 0, .int .i64 0, .int .i64 0, .int .i64 0, .int .i64 0], 34), (G, pbc x, 34)]) (by simp))
                    replace OW := hid (OW.out.trans (bV.mono (Nat.le_trans hUB.out OW.out.size)))
                    go_simp
                    clear KV bV
                    refine hK.out _ _ (SL.one3 trivial HS.out) (fun hHeld => ?_)
                    clear hK KK hHeld
                    try simp only [pt, List.set]
                    clear hV hL7
                    refine wpAnyL_ready (rs := [10]) (by kernel_rfl) (by simp) ?_
                    refine (AllReadyL.cons rfl (fun KK hK => ?_) AllReadyL.nil)
                    · skip
                      refine step_append_srcN rfl (.tmp 92) (.tmp 94) 60 60 rfl B 124 ip (.agg #[.int .i64 0, .int .i64 0]) 2 16 Tryz.underlying60 hip hzp0 hzp1 hzp2 rfl _ _ _ (by rfl) op.out _ _ _ (by rfl) (HSl.out _ HS.out.2) l1 l2 (Nat.le_trans hUB.out OW.out.size) ?_
                      intro v10 w5 hown hgrow
                      have bC := (Below.refl B _).grown hgrow (Nat.le_trans hUB.out OW.out.size) (fun k hk => (op.out.lt k hk).1)
                      replace oi := hid (own_grown17 oi.out op.out (by decide) hgrow)
                      replace ot := hid (own_grown17 ot.out op.out (by decide) hgrow)
                      rw [Nat.zero_add] at hown
                      replace op := hid hown
                      replace HS := hid (HS.out.grown17 bC HBR.out.1 (by simp only [List.mem_cons, List.not_mem_nil, or_false]; have := HBR.out; rintro p (rfl | rfl | rfl | rfl) <;> (simp only; omega)))
                      replace OW := hid (OW.out.trans bC)
                      clear hown hgrow bC
                      refine hK.out _ _ (SL.one3 trivial HS.out) (fun hHeld => ?_)
                      clear hK KK hHeld
                      (try simp only [Act.put]); (try simp only [List.setIfInBounds_toArray])
                      have hv6 : ∃ A7 c7, v6 = .slice A7 y.x.t.length c7 := by
                       rcases ot.out.2 with ⟨e, h0⟩ | ⟨g, cap, cur, e, _⟩
                       · exact ⟨none, 0, by rw [e, h0]⟩
                       · exact ⟨_, _, e⟩
                      have hv10 : ∃ A8 c8, v10 = .slice A8 y.x.l.length c8 := by
                       rcases op.out.2 with ⟨e, h0⟩ | ⟨g, cap, cur, e, _⟩
                       · exact ⟨none, 0, by rw [e, h0]⟩
                       · exact ⟨_, _, e⟩
                      obtain ⟨A7, c7, rfl⟩ := hv6
                      obtain ⟨A8, c8, rfl⟩ := hv10
                      have gz := (HS.out.at_ (b := R) (cs := enC y) (t := 62) (by simp)).free
                      have f33 := gz 3
                      have z33 := HS.out.cell (b := R) (cs := enC y) (t := 62) (by simp) (k := 3) rfl
                      have f34 := gz 4
                      have z34 := HS.out.cell (b := R) (cs := enC y) (t := 62) (by simp) (k := 4) rfl
                      have f35 := gz 5
                      have z35 := HS.out.cell (b := R) (cs := enC y) (t := 62) (by simp) (k := 5) rfl
                      clear gz
                      obtain ⟨X1, hX1⟩ : ∃ X, w5.setCell ⟨R, 3, none⟩ (.slice A6 y.x.p.length c6) = X := ⟨_, rfl⟩
                      obtain ⟨X2, hX2⟩ : ∃ X, X1.setCell ⟨R, 4, none⟩ (.slice A7 y.x.t.length c7) = X := ⟨_, rfl⟩
                      obtain ⟨X3, hX3⟩ : ∃ X, X2.setCell ⟨R, 5, none⟩ (.slice A8 y.x.l.length c8) = X := ⟨_, rfl⟩
                      have K1 := hid (show Mem w X1 [(R, [txt y.x.n, .int .i64 y.x.s, .int .u16 (y.x.g : Int), .slice A6 y.x.p.length c6, .slice y.r.b y.x.t.length y.r.bc, .slice y.r.c y.x.l.length y.r.cc, .int .i64 y.x.o], 62), (Q, [txt x.n, .int .i64 x.g.w, .int .i64 x.g.d, .int .i64 x.g.s, .slice A0 x.rm.length c0, .slice A1 x.wk.length c1, .slice A2 x.ps.length c2, .slice A3 k c3, .slice none 0 0, .slice none 0 0, .slice none 0 0, .int .i64 x.w0, .int .i64 x.w1, .int .i64 x.w2, .int .i64 x.w3], 34), (D, [.string ⟨#[]⟩, .int .i64 0, .int .i64 0, .int .i64 0, .slice none 0 0, .slice none 0 0, .slice none 0 0, .slice none 0 0, .slice none 0 0, .slice none 0 0, .slice none 0 0, .int .i64 0, .int .i64 0, .int .i64 0, .int .i64 0], 34), (G, pbc x, 34)] from hX1 ▸ HS.out.set HRw.out.1 HRN.out 3 _)
                      have K2 := hid (show Mem w X2 [(R, [txt y.x.n, .int .i64 y.x.s, .int .u16 (y.x.g : Int), .slice A6 y.x.p.length c6, .slice A7 y.x.t.length c7, .slice y.r.c y.x.l.length y.r.cc, .int .i64 y.x.o], 62), (Q, [txt x.n, .int .i64 x.g.w, .int .i64 x.g.d, .int .i64 x.g.s, .slice A0 x.rm.length c0, .slice A1 x.wk.length c1, .slice A2 x.ps.length c2, .slice A3 k c3, .slice none 0 0, .slice none 0 0, .slice none 0 0, .int .i64 x.w0, .int .i64 x.w1, .int .i64 x.w2, .int .i64 x.w3], 34), (D, [.string ⟨#[]⟩, .int .i64 0, .int .i64 0, .int .i64 0, .slice none 0 0, .slice none 0 0, .slice none 0 0, .slice none 0 0, .slice none 0 0, .slice none 0 0, .slice none 0 0, .int .i64 0, .int .i64 0, .int .i64 0, .int .i64 0], 34), (G, pbc x, 34)] from hX2 ▸ K1.out.set HRw.out.1 HRN.out 4 _)
                      have K5 := hid (show Mem w X3 [(R, enC ⟨y.x, ⟨A6, c6, A7, c7, A8, c8⟩⟩, 62), (Q, [txt x.n, .int .i64 x.g.w, .int .i64 x.g.d, .int .i64 x.g.s, .slice A0 x.rm.length c0, .slice A1 x.wk.length c1, .slice A2 x.ps.length c2, .slice A3 k c3, .slice none 0 0, .slice none 0 0, .slice none 0 0, .int .i64 x.w0, .int .i64 x.w1, .int .i64 x.w2, .int .i64 x.w3], 34), (D, [.string ⟨#[]⟩, .int .i64 0, .int .i64 0, .int .i64 0, .slice none 0 0, .slice none 0 0, .slice none 0 0, .slice none 0 0, .slice none 0 0, .slice none 0 0, .slice none 0 0, .int .i64 0, .int .i64 0, .int .i64 0, .int .i64 0], 34), (G, pbc x, 34)] from hX3 ▸ K2.out.set HRw.out.1 HRN.out 5 _)
                      have g4 := (K1.out.at_ (b := R) (cs := [txt y.x.n, .int .i64 y.x.s, .int .u16 (y.x.g : Int), .slice A6 y.x.p.length c6, .slice y.r.b y.x.t.length y.r.bc, .slice y.r.c y.x.l.length y.r.cc, .int .i64 y.x.o]) (t := 62) (by simp)).free 4
                      have y4 := K1.out.cell (b := R) (cs := [txt y.x.n, .int .i64 y.x.s, .int .u16 (y.x.g : Int), .slice A6 y.x.p.length c6, .slice y.r.b y.x.t.length y.r.bc, .slice y.r.c y.x.l.length y.r.cc, .int .i64 y.x.o]) (t := 62) (by simp) (k := 4) rfl
                      have g5 := (K2.out.at_ (b := R) (cs := [txt y.x.n, .int .i64 y.x.s, .int .u16 (y.x.g : Int), .slice A6 y.x.p.length c6, .slice A7 y.x.t.length c7, .slice y.r.c y.x.l.length y.r.cc, .int .i64 y.x.o]) (t := 62) (by simp)).free 5
                      have y5 := K2.out.cell (b := R) (cs := [txt y.x.n, .int .i64 y.x.s, .int .u16 (y.x.g : Int), .slice A6 y.x.p.length c6, .slice A7 y.x.t.length c7, .slice y.r.c y.x.l.length y.r.cc, .int .i64 y.x.o]) (t := 62) (by simp) (k := 5) rfl
                      have HAv := hid (show Abv B w5 X3 from hX3 ▸ hX2 ▸ hX1 ▸ ((Abv.set _ _ _ HBR.out.2.1).trans (Abv.set _ _ _ HBR.out.2.1)).trans (Abv.set _ _ _ HBR.out.2.1))
                      have HY5 := hid (show ClE C ⟨y.x, ⟨A6, c6, A7, c7, A8, c8⟩⟩ X3 from ⟨own_mono (own_abv oi.out HAv.out) HBR.out.2.2.2.2.2, own_mono (own_abv ot.out HAv.out) HBR.out.2.2.2.2.2, own_mono (own_abv op.out HAv.out) HBR.out.2.2.2.2.2⟩)
                      have B5 := hid (show Below wr.heap.size wr X3 from hX3 ▸ hX2 ▸ hX1 ▸ (((B3.out.trans (OW.out.mono (by have := HB.out; have := B3.out.size; omega))).setCell (p := ⟨R, 3, none⟩) HRr.out _).setCell (p := ⟨R, 4, none⟩) HRr.out _).setCell (p := ⟨R, 5, none⟩) HRr.out _)
                      refine wpAnyL_ready (rs := [12]) (by kernel_rfl) (by simp) ?_
                      refine (AllReadyL.cons rfl (fun KK hK => ?_) AllReadyL.nil)
                      simp only [List.getElem_toArray, List.getElem_cons_succ, List.getElem_cons_zero]
                      go_simp
                      refine hK.out _ _ (SL.past3 trivial (by kernel_rfl) (by kernel_rfl) (by kernel_rfl)) (fun hHeld => ?_)
                      clear hK KK hHeld
                      try simp only [pt, List.set]
                      refine takeL 13 97 (.pointer (some ⟨R, 4, none⟩)) rfl rfl (by kernel_rfl) (by kernel_rfl) (by kernel_rfl) (by rfl) (fun _ _ _ h => h) (by kernel_rfl) (fun X hX => by clear hX; first | rfl | go_simp) (SL.past3 trivial (by kernel_rfl) (by kernel_rfl) (by kernel_rfl)) ?_
                      simp only [pt, List.set]
                      refine wpAnyL_ready (rs := [14]) (by kernel_rfl) (by simp) ?_
                      refine (AllReadyL.cons rfl (fun KK hK => ?_) AllReadyL.nil)
                      simp only [List.getElem_toArray, List.getElem_cons_succ, List.getElem_cons_zero]
                      go_simp
                      refine hK.out _ _ (SL.past3 trivial (by kernel_rfl) (by kernel_rfl) (by kernel_rfl)) (fun hHeld => ?_)
                      clear hK KK hHeld
                      try simp only [pt, List.set]
                      refine takeL 15 98 (.pointer (some ⟨R, 5, none⟩)) rfl rfl (by kernel_rfl) (by kernel_rfl) (by kernel_rfl) (by rfl) (fun _ _ _ h => h) (by kernel_rfl) (fun X hX => by clear hX; first | rfl | go_simp) (SL.past3 trivial (by kernel_rfl) (by kernel_rfl) (by kernel_rfl)) ?_
                      simp only [pt, List.set]
                      refine wpAnyL_ready (rs := [16]) (by kernel_rfl) (by simp) ?_
                      refine (AllReadyL.cons rfl (fun KK hK => ?_) AllReadyL.nil)
                      simp only [List.getElem_toArray, List.getElem_cons_succ, List.getElem_cons_zero]
                      go_simp
                      refine hK.out _ _ (SL.past3 trivial (by kernel_rfl) (by kernel_rfl) (by kernel_rfl)) (fun hHeld => ?_)
                      clear hK KK hHeld
                      try simp only [pt, List.set]
                      refine wpAnyL_done (by kernel_rfl) ?_ _
                      go_wp2_with fail
                      go_meet
                      exact ⟨A6, c6, A7, c7, A8, c8, K5, HY5, B5⟩
                · skip
                  simp only [List.getElem_toArray, List.getElem_cons_succ, List.getElem_cons_zero]
                  obtain ⟨L7, V, hL7, hV, KV, bV⟩ := HS.out.one [] 124
                  replace oi := hid (own_below oi.out bV)
                  replace ot := hid (own_below ot.out bV)
                  have op := hid (show V.ownsRow B 124 2 (.slice (some ⟨L7, 0, none⟩) 0 0) 0 [] from by rw [← hV, ← hL7]; exact World.ownsRow_lit (base := B) (e := 124) (size := 2) _ #[] 0 (Nat.le_trans hUB.out OW.out.size) (by unfold maxLen; omega) (by rw [Nat.zero_mul]; rfl))
                  replace HS := hid (KV.out.sub (l' := [(R, enC y, 62), (Q, [txt x.n, .int .i64 x.g.w, .int .i64 x.g.d, .int .i64 x.g.s, .slice A0 x.rm.length c0, .slice A1 x.wk.length c1, .slice A2 x.ps.length c2, .slice A3 k c3, .slice none 0 0, .slice none 0 0, .slice none 0 0, .int .i64 x.w0, .int .i64 x.w1, .int .i64 x.w2, .int .i64 x.w3], 34), (D, [.string ⟨#[]⟩, .int .i64 0, .int .i64 0, .int .i64 0, .slice none 0 0, .slice none 0 0, .slice none 0 0, .slice none 0 0, .slice none 0 0, .slice none 0 0, .slice none 0 0, .int .i64 0, .int .i64 0, .int .i64 0, .int .i64 0], 34), (G, pbc x, 34)]) (by simp))
                  replace OW := hid (OW.out.trans (bV.mono (Nat.le_trans hUB.out OW.out.size)))
                  go_simp
                  clear KV bV
                  refine hK.out _ _ (SL.one3 trivial HS.out) (fun hHeld => ?_)
                  clear hK KK hHeld
                  try simp only [pt, List.set]
                  clear hV hL7
                  refine wpAnyL_ready (rs := [6]) (by kernel_rfl) (by simp) ?_
                  refine (AllReadyL.cons rfl (fun KK hK => ?_) AllReadyL.nil)
                  · skip
                    refine step_append_srcN rfl (.tmp 88) (.tmp 90) 59 59 rfl B 122 it (.agg #[.int .u32 0, .int .u8 0, .int .i64 0, .int .i64 0, .int .i64 0]) 5 32 Tryz.underlying59 hit hzt0 hzt1 hzt2 rfl _ _ _ (by rfl) ot.out _ _ _ (by rfl) (HSt.out _ HS.out.2) t1 t2 (Nat.le_trans hUB.out OW.out.size) ?_
                    intro v6 w5 hown hgrow
                    have bC := (Below.refl B _).grown hgrow (Nat.le_trans hUB.out OW.out.size) (fun k hk => (ot.out.lt k hk).1)
                    replace oi := hid (own_grown17 oi.out ot.out (by decide) hgrow)
                    replace op := hid (own_grown17 op.out ot.out (by decide) hgrow)
                    rw [Nat.zero_add] at hown
                    replace ot := hid hown
                    replace HS := hid (HS.out.grown17 bC HBR.out.1 (by simp only [List.mem_cons, List.not_mem_nil, or_false]; have := HBR.out; rintro p (rfl | rfl | rfl | rfl) <;> (simp only; omega)))
                    replace OW := hid (OW.out.trans bC)
                    clear hown hgrow bC
                    refine hK.out _ _ (SL.one3 trivial HS.out) (fun hHeld => ?_)
                    clear hK KK hHeld
                    (try simp only [Act.put]); (try simp only [List.setIfInBounds_toArray])
                    refine wpAnyL_ready (rs := [10]) (by kernel_rfl) (by simp) ?_
                    refine (AllReadyL.cons rfl (fun KK hK => ?_) AllReadyL.nil)
                    · skip
                      refine step_append_srcN rfl (.tmp 92) (.tmp 94) 60 60 rfl B 124 ip (.agg #[.int .i64 0, .int .i64 0]) 2 16 Tryz.underlying60 hip hzp0 hzp1 hzp2 rfl _ _ _ (by rfl) op.out _ _ _ (by rfl) (HSl.out _ HS.out.2) l1 l2 (Nat.le_trans hUB.out OW.out.size) ?_
                      intro v10 w5 hown hgrow
                      have bC := (Below.refl B _).grown hgrow (Nat.le_trans hUB.out OW.out.size) (fun k hk => (op.out.lt k hk).1)
                      replace oi := hid (own_grown17 oi.out op.out (by decide) hgrow)
                      replace ot := hid (own_grown17 ot.out op.out (by decide) hgrow)
                      rw [Nat.zero_add] at hown
                      replace op := hid hown
                      replace HS := hid (HS.out.grown17 bC HBR.out.1 (by simp only [List.mem_cons, List.not_mem_nil, or_false]; have := HBR.out; rintro p (rfl | rfl | rfl | rfl) <;> (simp only; omega)))
                      replace OW := hid (OW.out.trans bC)
                      clear hown hgrow bC
                      refine hK.out _ _ (SL.one3 trivial HS.out) (fun hHeld => ?_)
                      clear hK KK hHeld
                      (try simp only [Act.put]); (try simp only [List.setIfInBounds_toArray])
                      have hv6 : ∃ A7 c7, v6 = .slice A7 y.x.t.length c7 := by
                       rcases ot.out.2 with ⟨e, h0⟩ | ⟨g, cap, cur, e, _⟩
                       · exact ⟨none, 0, by rw [e, h0]⟩
                       · exact ⟨_, _, e⟩
                      have hv10 : ∃ A8 c8, v10 = .slice A8 y.x.l.length c8 := by
                       rcases op.out.2 with ⟨e, h0⟩ | ⟨g, cap, cur, e, _⟩
                       · exact ⟨none, 0, by rw [e, h0]⟩
                       · exact ⟨_, _, e⟩
                      obtain ⟨A7, c7, rfl⟩ := hv6
                      obtain ⟨A8, c8, rfl⟩ := hv10
                      have gz := (HS.out.at_ (b := R) (cs := enC y) (t := 62) (by simp)).free
                      have f33 := gz 3
                      have z33 := HS.out.cell (b := R) (cs := enC y) (t := 62) (by simp) (k := 3) rfl
                      have f34 := gz 4
                      have z34 := HS.out.cell (b := R) (cs := enC y) (t := 62) (by simp) (k := 4) rfl
                      have f35 := gz 5
                      have z35 := HS.out.cell (b := R) (cs := enC y) (t := 62) (by simp) (k := 5) rfl
                      clear gz
                      obtain ⟨X1, hX1⟩ : ∃ X, w5.setCell ⟨R, 3, none⟩ (.slice A6 y.x.p.length c6) = X := ⟨_, rfl⟩
                      obtain ⟨X2, hX2⟩ : ∃ X, X1.setCell ⟨R, 4, none⟩ (.slice A7 y.x.t.length c7) = X := ⟨_, rfl⟩
                      obtain ⟨X3, hX3⟩ : ∃ X, X2.setCell ⟨R, 5, none⟩ (.slice A8 y.x.l.length c8) = X := ⟨_, rfl⟩
                      have K1 := hid (show Mem w X1 [(R, [txt y.x.n, .int .i64 y.x.s, .int .u16 (y.x.g : Int), .slice A6 y.x.p.length c6, .slice y.r.b y.x.t.length y.r.bc, .slice y.r.c y.x.l.length y.r.cc, .int .i64 y.x.o], 62), (Q, [txt x.n, .int .i64 x.g.w, .int .i64 x.g.d, .int .i64 x.g.s, .slice A0 x.rm.length c0, .slice A1 x.wk.length c1, .slice A2 x.ps.length c2, .slice A3 k c3, .slice none 0 0, .slice none 0 0, .slice none 0 0, .int .i64 x.w0, .int .i64 x.w1, .int .i64 x.w2, .int .i64 x.w3], 34), (D, [.string ⟨#[]⟩, .int .i64 0, .int .i64 0, .int .i64 0, .slice none 0 0, .slice none 0 0, .slice none 0 0, .slice none 0 0, .slice none 0 0, .slice none 0 0, .slice none 0 0, .int .i64 0, .int .i64 0, .int .i64 0, .int .i64 0], 34), (G, pbc x, 34)] from hX1 ▸ HS.out.set HRw.out.1 HRN.out 3 _)
                      have K2 := hid (show Mem w X2 [(R, [txt y.x.n, .int .i64 y.x.s, .int .u16 (y.x.g : Int), .slice A6 y.x.p.length c6, .slice A7 y.x.t.length c7, .slice y.r.c y.x.l.length y.r.cc, .int .i64 y.x.o], 62), (Q, [txt x.n, .int .i64 x.g.w, .int .i64 x.g.d, .int .i64 x.g.s, .slice A0 x.rm.length c0, .slice A1 x.wk.length c1, .slice A2 x.ps.length c2, .slice A3 k c3, .slice none 0 0, .slice none 0 0, .slice none 0 0, .int .i64 x.w0, .int .i64 x.w1, .int .i64 x.w2, .int .i64 x.w3], 34), (D, [.string ⟨#[]⟩, .int .i64 0, .int .i64 0, .int .i64 0, .slice none 0 0, .slice none 0 0, .slice none 0 0, .slice none 0 0, .slice none 0 0, .slice none 0 0, .slice none 0 0, .int .i64 0, .int .i64 0, .int .i64 0, .int .i64 0], 34), (G, pbc x, 34)] from hX2 ▸ K1.out.set HRw.out.1 HRN.out 4 _)
                      have K5 := hid (show Mem w X3 [(R, enC ⟨y.x, ⟨A6, c6, A7, c7, A8, c8⟩⟩, 62), (Q, [txt x.n, .int .i64 x.g.w, .int .i64 x.g.d, .int .i64 x.g.s, .slice A0 x.rm.length c0, .slice A1 x.wk.length c1, .slice A2 x.ps.length c2, .slice A3 k c3, .slice none 0 0, .slice none 0 0, .slice none 0 0, .int .i64 x.w0, .int .i64 x.w1, .int .i64 x.w2, .int .i64 x.w3], 34), (D, [.string ⟨#[]⟩, .int .i64 0, .int .i64 0, .int .i64 0, .slice none 0 0, .slice none 0 0, .slice none 0 0, .slice none 0 0, .slice none 0 0, .slice none 0 0, .slice none 0 0, .int .i64 0, .int .i64 0, .int .i64 0, .int .i64 0], 34), (G, pbc x, 34)] from hX3 ▸ K2.out.set HRw.out.1 HRN.out 5 _)
                      have g4 := (K1.out.at_ (b := R) (cs := [txt y.x.n, .int .i64 y.x.s, .int .u16 (y.x.g : Int), .slice A6 y.x.p.length c6, .slice y.r.b y.x.t.length y.r.bc, .slice y.r.c y.x.l.length y.r.cc, .int .i64 y.x.o]) (t := 62) (by simp)).free 4
                      have y4 := K1.out.cell (b := R) (cs := [txt y.x.n, .int .i64 y.x.s, .int .u16 (y.x.g : Int), .slice A6 y.x.p.length c6, .slice y.r.b y.x.t.length y.r.bc, .slice y.r.c y.x.l.length y.r.cc, .int .i64 y.x.o]) (t := 62) (by simp) (k := 4) rfl
                      have g5 := (K2.out.at_ (b := R) (cs := [txt y.x.n, .int .i64 y.x.s, .int .u16 (y.x.g : Int), .slice A6 y.x.p.length c6, .slice A7 y.x.t.length c7, .slice y.r.c y.x.l.length y.r.cc, .int .i64 y.x.o]) (t := 62) (by simp)).free 5
                      have y5 := K2.out.cell (b := R) (cs := [txt y.x.n, .int .i64 y.x.s, .int .u16 (y.x.g : Int), .slice A6 y.x.p.length c6, .slice A7 y.x.t.length c7, .slice y.r.c y.x.l.length y.r.cc, .int .i64 y.x.o]) (t := 62) (by simp) (k := 5) rfl
                      have HAv := hid (show Abv B w5 X3 from hX3 ▸ hX2 ▸ hX1 ▸ ((Abv.set _ _ _ HBR.out.2.1).trans (Abv.set _ _ _ HBR.out.2.1)).trans (Abv.set _ _ _ HBR.out.2.1))
                      have HY5 := hid (show ClE C ⟨y.x, ⟨A6, c6, A7, c7, A8, c8⟩⟩ X3 from ⟨own_mono (own_abv oi.out HAv.out) HBR.out.2.2.2.2.2, own_mono (own_abv ot.out HAv.out) HBR.out.2.2.2.2.2, own_mono (own_abv op.out HAv.out) HBR.out.2.2.2.2.2⟩)
                      have B5 := hid (show Below wr.heap.size wr X3 from hX3 ▸ hX2 ▸ hX1 ▸ (((B3.out.trans (OW.out.mono (by have := HB.out; have := B3.out.size; omega))).setCell (p := ⟨R, 3, none⟩) HRr.out _).setCell (p := ⟨R, 4, none⟩) HRr.out _).setCell (p := ⟨R, 5, none⟩) HRr.out _)
                      refine wpAnyL_ready (rs := [12]) (by kernel_rfl) (by simp) ?_
                      refine (AllReadyL.cons rfl (fun KK hK => ?_) AllReadyL.nil)
                      simp only [List.getElem_toArray, List.getElem_cons_succ, List.getElem_cons_zero]
                      go_simp
                      refine hK.out _ _ (SL.past3 trivial (by kernel_rfl) (by kernel_rfl) (by kernel_rfl)) (fun hHeld => ?_)
                      clear hK KK hHeld
                      try simp only [pt, List.set]
                      refine takeL 13 97 (.pointer (some ⟨R, 4, none⟩)) rfl rfl (by kernel_rfl) (by kernel_rfl) (by kernel_rfl) (by rfl) (fun _ _ _ h => h) (by kernel_rfl) (fun X hX => by clear hX; first | rfl | go_simp) (SL.past3 trivial (by kernel_rfl) (by kernel_rfl) (by kernel_rfl)) ?_
                      simp only [pt, List.set]
                      refine wpAnyL_ready (rs := [14]) (by kernel_rfl) (by simp) ?_
                      refine (AllReadyL.cons rfl (fun KK hK => ?_) AllReadyL.nil)
                      simp only [List.getElem_toArray, List.getElem_cons_succ, List.getElem_cons_zero]
                      go_simp
                      refine hK.out _ _ (SL.past3 trivial (by kernel_rfl) (by kernel_rfl) (by kernel_rfl)) (fun hHeld => ?_)
                      clear hK KK hHeld
                      try simp only [pt, List.set]
                      refine takeL 15 98 (.pointer (some ⟨R, 5, none⟩)) rfl rfl (by kernel_rfl) (by kernel_rfl) (by kernel_rfl) (by rfl) (fun _ _ _ h => h) (by kernel_rfl) (fun X hX => by clear hX; first | rfl | go_simp) (SL.past3 trivial (by kernel_rfl) (by kernel_rfl) (by kernel_rfl)) ?_
                      simp only [pt, List.set]
                      refine wpAnyL_ready (rs := [16]) (by kernel_rfl) (by simp) ?_
                      refine (AllReadyL.cons rfl (fun KK hK => ?_) AllReadyL.nil)
                      simp only [List.getElem_toArray, List.getElem_cons_succ, List.getElem_cons_zero]
                      go_simp
                      refine hK.out _ _ (SL.past3 trivial (by kernel_rfl) (by kernel_rfl) (by kernel_rfl)) (fun hHeld => ?_)
                      clear hK KK hHeld
                      try simp only [pt, List.set]
                      refine wpAnyL_done (by kernel_rfl) ?_ _
                      go_wp2_with fail
                      go_meet
                      exact ⟨A6, c6, A7, c7, A8, c8, K5, HY5, B5⟩
              · skip
                simp only [List.getElem_toArray, List.getElem_cons_succ, List.getElem_cons_zero]
                obtain ⟨L7, V, hL7, hV, KV, bV⟩ := HS.out.one [] 124
                replace oi := hid (own_below oi.out bV)
                have op := hid (show V.ownsRow B 124 2 (.slice (some ⟨L7, 0, none⟩) 0 0) 0 [] from by rw [← hV, ← hL7]; exact World.ownsRow_lit (base := B) (e := 124) (size := 2) _ #[] 0 (Nat.le_trans hUB.out OW.out.size) (by unfold maxLen; omega) (by rw [Nat.zero_mul]; rfl))
                replace HS := hid (KV.out.sub (l' := [(R, enC y, 62), (Q, [txt x.n, .int .i64 x.g.w, .int .i64 x.g.d, .int .i64 x.g.s, .slice A0 x.rm.length c0, .slice A1 x.wk.length c1, .slice A2 x.ps.length c2, .slice A3 k c3, .slice none 0 0, .slice none 0 0, .slice none 0 0, .int .i64 x.w0, .int .i64 x.w1, .int .i64 x.w2, .int .i64 x.w3], 34), (D, [.string ⟨#[]⟩, .int .i64 0, .int .i64 0, .int .i64 0, .slice none 0 0, .slice none 0 0, .slice none 0 0, .slice none 0 0, .slice none 0 0, .slice none 0 0, .slice none 0 0, .int .i64 0, .int .i64 0, .int .i64 0, .int .i64 0], 34), (G, pbc x, 34)]) (by simp))
                replace OW := hid (OW.out.trans (bV.mono (Nat.le_trans hUB.out OW.out.size)))
                go_simp
                clear KV bV
                refine hK.out _ _ (SL.one3 trivial HS.out) (fun hHeld => ?_)
                clear hK KK hHeld
                try simp only [pt, List.set]
                clear hV hL7
                refine wpAnyL_ready (rs := [3]) (by kernel_rfl) (by simp) ?_
                refine (AllReadyL.cons rfl (fun KK hK => ?_) AllReadyL.nil)
                · skip
                  simp only [List.getElem_toArray, List.getElem_cons_succ, List.getElem_cons_zero]
                  obtain ⟨L3, V, hL3, hV, KV, bV⟩ := HS.out.one [] 122
                  replace oi := hid (own_below oi.out bV)
                  replace op := hid (own_below op.out bV)
                  have ot := hid (show V.ownsRow B 122 5 (.slice (some ⟨L3, 0, none⟩) 0 0) 0 [] from by rw [← hV, ← hL3]; exact World.ownsRow_lit (base := B) (e := 122) (size := 5) _ #[] 0 (Nat.le_trans hUB.out OW.out.size) (by unfold maxLen; omega) (by rw [Nat.zero_mul]; rfl))
                  replace HS := hid (KV.out.sub (l' := [(R, enC y, 62), (Q, [txt x.n, .int .i64 x.g.w, .int .i64 x.g.d, .int .i64 x.g.s, .slice A0 x.rm.length c0, .slice A1 x.wk.length c1, .slice A2 x.ps.length c2, .slice A3 k c3, .slice none 0 0, .slice none 0 0, .slice none 0 0, .int .i64 x.w0, .int .i64 x.w1, .int .i64 x.w2, .int .i64 x.w3], 34), (D, [.string ⟨#[]⟩, .int .i64 0, .int .i64 0, .int .i64 0, .slice none 0 0, .slice none 0 0, .slice none 0 0, .slice none 0 0, .slice none 0 0, .slice none 0 0, .slice none 0 0, .int .i64 0, .int .i64 0, .int .i64 0, .int .i64 0], 34), (G, pbc x, 34)]) (by simp))
                  replace OW := hid (OW.out.trans (bV.mono (Nat.le_trans hUB.out OW.out.size)))
                  go_simp
                  clear KV bV
                  refine hK.out _ _ (SL.one3 trivial HS.out) (fun hHeld => ?_)
                  clear hK KK hHeld
                  try simp only [pt, List.set]
                  clear hV hL3
                  refine wpAnyL_ready (rs := [6]) (by kernel_rfl) (by simp) ?_
                  refine (AllReadyL.cons rfl (fun KK hK => ?_) AllReadyL.nil)
                  · skip
                    refine step_append_srcN rfl (.tmp 88) (.tmp 90) 59 59 rfl B 122 it (.agg #[.int .u32 0, .int .u8 0, .int .i64 0, .int .i64 0, .int .i64 0]) 5 32 Tryz.underlying59 hit hzt0 hzt1 hzt2 rfl _ _ _ (by rfl) ot.out _ _ _ (by rfl) (HSt.out _ HS.out.2) t1 t2 (Nat.le_trans hUB.out OW.out.size) ?_
                    intro v6 w5 hown hgrow
                    have bC := (Below.refl B _).grown hgrow (Nat.le_trans hUB.out OW.out.size) (fun k hk => (ot.out.lt k hk).1)
                    replace oi := hid (own_grown17 oi.out ot.out (by decide) hgrow)
                    replace op := hid (own_grown17 op.out ot.out (by decide) hgrow)
                    rw [Nat.zero_add] at hown
                    replace ot := hid hown
                    replace HS := hid (HS.out.grown17 bC HBR.out.1 (by simp only [List.mem_cons, List.not_mem_nil, or_false]; have := HBR.out; rintro p (rfl | rfl | rfl | rfl) <;> (simp only; omega)))
                    replace OW := hid (OW.out.trans bC)
                    clear hown hgrow bC
                    refine hK.out _ _ (SL.one3 trivial HS.out) (fun hHeld => ?_)
                    clear hK KK hHeld
                    (try simp only [Act.put]); (try simp only [List.setIfInBounds_toArray])
                    refine wpAnyL_ready (rs := [10]) (by kernel_rfl) (by simp) ?_
                    refine (AllReadyL.cons rfl (fun KK hK => ?_) AllReadyL.nil)
                    · skip
                      refine step_append_srcN rfl (.tmp 92) (.tmp 94) 60 60 rfl B 124 ip (.agg #[.int .i64 0, .int .i64 0]) 2 16 Tryz.underlying60 hip hzp0 hzp1 hzp2 rfl _ _ _ (by rfl) op.out _ _ _ (by rfl) (HSl.out _ HS.out.2) l1 l2 (Nat.le_trans hUB.out OW.out.size) ?_
                      intro v10 w5 hown hgrow
                      have bC := (Below.refl B _).grown hgrow (Nat.le_trans hUB.out OW.out.size) (fun k hk => (op.out.lt k hk).1)
                      replace oi := hid (own_grown17 oi.out op.out (by decide) hgrow)
                      replace ot := hid (own_grown17 ot.out op.out (by decide) hgrow)
                      rw [Nat.zero_add] at hown
                      replace op := hid hown
                      replace HS := hid (HS.out.grown17 bC HBR.out.1 (by simp only [List.mem_cons, List.not_mem_nil, or_false]; have := HBR.out; rintro p (rfl | rfl | rfl | rfl) <;> (simp only; omega)))
                      replace OW := hid (OW.out.trans bC)
                      clear hown hgrow bC
                      refine hK.out _ _ (SL.one3 trivial HS.out) (fun hHeld => ?_)
                      clear hK KK hHeld
                      (try simp only [Act.put]); (try simp only [List.setIfInBounds_toArray])
                      have hv6 : ∃ A7 c7, v6 = .slice A7 y.x.t.length c7 := by
                       rcases ot.out.2 with ⟨e, h0⟩ | ⟨g, cap, cur, e, _⟩
                       · exact ⟨none, 0, by rw [e, h0]⟩
                       · exact ⟨_, _, e⟩
                      have hv10 : ∃ A8 c8, v10 = .slice A8 y.x.l.length c8 := by
                       rcases op.out.2 with ⟨e, h0⟩ | ⟨g, cap, cur, e, _⟩
                       · exact ⟨none, 0, by rw [e, h0]⟩
                       · exact ⟨_, _, e⟩
                      obtain ⟨A7, c7, rfl⟩ := hv6
                      obtain ⟨A8, c8, rfl⟩ := hv10
                      have gz := (HS.out.at_ (b := R) (cs := enC y) (t := 62) (by simp)).free
                      have f33 := gz 3
                      have z33 := HS.out.cell (b := R) (cs := enC y) (t := 62) (by simp) (k := 3) rfl
                      have f34 := gz 4
                      have z34 := HS.out.cell (b := R) (cs := enC y) (t := 62) (by simp) (k := 4) rfl
                      have f35 := gz 5
                      have z35 := HS.out.cell (b := R) (cs := enC y) (t := 62) (by simp) (k := 5) rfl
                      clear gz
                      obtain ⟨X1, hX1⟩ : ∃ X, w5.setCell ⟨R, 3, none⟩ (.slice A6 y.x.p.length c6) = X := ⟨_, rfl⟩
                      obtain ⟨X2, hX2⟩ : ∃ X, X1.setCell ⟨R, 4, none⟩ (.slice A7 y.x.t.length c7) = X := ⟨_, rfl⟩
                      obtain ⟨X3, hX3⟩ : ∃ X, X2.setCell ⟨R, 5, none⟩ (.slice A8 y.x.l.length c8) = X := ⟨_, rfl⟩
                      have K1 := hid (show Mem w X1 [(R, [txt y.x.n, .int .i64 y.x.s, .int .u16 (y.x.g : Int), .slice A6 y.x.p.length c6, .slice y.r.b y.x.t.length y.r.bc, .slice y.r.c y.x.l.length y.r.cc, .int .i64 y.x.o], 62), (Q, [txt x.n, .int .i64 x.g.w, .int .i64 x.g.d, .int .i64 x.g.s, .slice A0 x.rm.length c0, .slice A1 x.wk.length c1, .slice A2 x.ps.length c2, .slice A3 k c3, .slice none 0 0, .slice none 0 0, .slice none 0 0, .int .i64 x.w0, .int .i64 x.w1, .int .i64 x.w2, .int .i64 x.w3], 34), (D, [.string ⟨#[]⟩, .int .i64 0, .int .i64 0, .int .i64 0, .slice none 0 0, .slice none 0 0, .slice none 0 0, .slice none 0 0, .slice none 0 0, .slice none 0 0, .slice none 0 0, .int .i64 0, .int .i64 0, .int .i64 0, .int .i64 0], 34), (G, pbc x, 34)] from hX1 ▸ HS.out.set HRw.out.1 HRN.out 3 _)
                      have K2 := hid (show Mem w X2 [(R, [txt y.x.n, .int .i64 y.x.s, .int .u16 (y.x.g : Int), .slice A6 y.x.p.length c6, .slice A7 y.x.t.length c7, .slice y.r.c y.x.l.length y.r.cc, .int .i64 y.x.o], 62), (Q, [txt x.n, .int .i64 x.g.w, .int .i64 x.g.d, .int .i64 x.g.s, .slice A0 x.rm.length c0, .slice A1 x.wk.length c1, .slice A2 x.ps.length c2, .slice A3 k c3, .slice none 0 0, .slice none 0 0, .slice none 0 0, .int .i64 x.w0, .int .i64 x.w1, .int .i64 x.w2, .int .i64 x.w3], 34), (D, [.string ⟨#[]⟩, .int .i64 0, .int .i64 0, .int .i64 0, .slice none 0 0, .slice none 0 0, .slice none 0 0, .slice none 0 0, .slice none 0 0, .slice none 0 0, .slice none 0 0, .int .i64 0, .int .i64 0, .int .i64 0, .int .i64 0], 34), (G, pbc x, 34)] from hX2 ▸ K1.out.set HRw.out.1 HRN.out 4 _)
                      have K5 := hid (show Mem w X3 [(R, enC ⟨y.x, ⟨A6, c6, A7, c7, A8, c8⟩⟩, 62), (Q, [txt x.n, .int .i64 x.g.w, .int .i64 x.g.d, .int .i64 x.g.s, .slice A0 x.rm.length c0, .slice A1 x.wk.length c1, .slice A2 x.ps.length c2, .slice A3 k c3, .slice none 0 0, .slice none 0 0, .slice none 0 0, .int .i64 x.w0, .int .i64 x.w1, .int .i64 x.w2, .int .i64 x.w3], 34), (D, [.string ⟨#[]⟩, .int .i64 0, .int .i64 0, .int .i64 0, .slice none 0 0, .slice none 0 0, .slice none 0 0, .slice none 0 0, .slice none 0 0, .slice none 0 0, .slice none 0 0, .int .i64 0, .int .i64 0, .int .i64 0, .int .i64 0], 34), (G, pbc x, 34)] from hX3 ▸ K2.out.set HRw.out.1 HRN.out 5 _)
                      have g4 := (K1.out.at_ (b := R) (cs := [txt y.x.n, .int .i64 y.x.s, .int .u16 (y.x.g : Int), .slice A6 y.x.p.length c6, .slice y.r.b y.x.t.length y.r.bc, .slice y.r.c y.x.l.length y.r.cc, .int .i64 y.x.o]) (t := 62) (by simp)).free 4
                      have y4 := K1.out.cell (b := R) (cs := [txt y.x.n, .int .i64 y.x.s, .int .u16 (y.x.g : Int), .slice A6 y.x.p.length c6, .slice y.r.b y.x.t.length y.r.bc, .slice y.r.c y.x.l.length y.r.cc, .int .i64 y.x.o]) (t := 62) (by simp) (k := 4) rfl
                      have g5 := (K2.out.at_ (b := R) (cs := [txt y.x.n, .int .i64 y.x.s, .int .u16 (y.x.g : Int), .slice A6 y.x.p.length c6, .slice A7 y.x.t.length c7, .slice y.r.c y.x.l.length y.r.cc, .int .i64 y.x.o]) (t := 62) (by simp)).free 5
                      have y5 := K2.out.cell (b := R) (cs := [txt y.x.n, .int .i64 y.x.s, .int .u16 (y.x.g : Int), .slice A6 y.x.p.length c6, .slice A7 y.x.t.length c7, .slice y.r.c y.x.l.length y.r.cc, .int .i64 y.x.o]) (t := 62) (by simp) (k := 5) rfl
                      have HAv := hid (show Abv B w5 X3 from hX3 ▸ hX2 ▸ hX1 ▸ ((Abv.set _ _ _ HBR.out.2.1).trans (Abv.set _ _ _ HBR.out.2.1)).trans (Abv.set _ _ _ HBR.out.2.1))
                      have HY5 := hid (show ClE C ⟨y.x, ⟨A6, c6, A7, c7, A8, c8⟩⟩ X3 from ⟨own_mono (own_abv oi.out HAv.out) HBR.out.2.2.2.2.2, own_mono (own_abv ot.out HAv.out) HBR.out.2.2.2.2.2, own_mono (own_abv op.out HAv.out) HBR.out.2.2.2.2.2⟩)
                      have B5 := hid (show Below wr.heap.size wr X3 from hX3 ▸ hX2 ▸ hX1 ▸ (((B3.out.trans (OW.out.mono (by have := HB.out; have := B3.out.size; omega))).setCell (p := ⟨R, 3, none⟩) HRr.out _).setCell (p := ⟨R, 4, none⟩) HRr.out _).setCell (p := ⟨R, 5, none⟩) HRr.out _)
                      refine wpAnyL_ready (rs := [12]) (by kernel_rfl) (by simp) ?_
                      refine (AllReadyL.cons rfl (fun KK hK => ?_) AllReadyL.nil)
                      simp only [List.getElem_toArray, List.getElem_cons_succ, List.getElem_cons_zero]
                      go_simp
                      refine hK.out _ _ (SL.past3 trivial (by kernel_rfl) (by kernel_rfl) (by kernel_rfl)) (fun hHeld => ?_)
                      clear hK KK hHeld
                      try simp only [pt, List.set]
                      refine takeL 13 97 (.pointer (some ⟨R, 4, none⟩)) rfl rfl (by kernel_rfl) (by kernel_rfl) (by kernel_rfl) (by rfl) (fun _ _ _ h => h) (by kernel_rfl) (fun X hX => by clear hX; first | rfl | go_simp) (SL.past3 trivial (by kernel_rfl) (by kernel_rfl) (by kernel_rfl)) ?_
                      simp only [pt, List.set]
                      refine wpAnyL_ready (rs := [14]) (by kernel_rfl) (by simp) ?_
                      refine (AllReadyL.cons rfl (fun KK hK => ?_) AllReadyL.nil)
                      simp only [List.getElem_toArray, List.getElem_cons_succ, List.getElem_cons_zero]
                      go_simp
                      refine hK.out _ _ (SL.past3 trivial (by kernel_rfl) (by kernel_rfl) (by kernel_rfl)) (fun hHeld => ?_)
                      clear hK KK hHeld
                      try simp only [pt, List.set]
                      refine takeL 15 98 (.pointer (some ⟨R, 5, none⟩)) rfl rfl (by kernel_rfl) (by kernel_rfl) (by kernel_rfl) (by rfl) (fun _ _ _ h => h) (by kernel_rfl) (fun X hX => by clear hX; first | rfl | go_simp) (SL.past3 trivial (by kernel_rfl) (by kernel_rfl) (by kernel_rfl)) ?_
                      simp only [pt, List.set]
                      refine wpAnyL_ready (rs := [16]) (by kernel_rfl) (by simp) ?_
                      refine (AllReadyL.cons rfl (fun KK hK => ?_) AllReadyL.nil)
                      simp only [List.getElem_toArray, List.getElem_cons_succ, List.getElem_cons_zero]
                      go_simp
                      refine hK.out _ _ (SL.past3 trivial (by kernel_rfl) (by kernel_rfl) (by kernel_rfl)) (fun hHeld => ?_)
                      clear hK KK hHeld
                      try simp only [pt, List.set]
                      refine wpAnyL_done (by kernel_rfl) ?_ _
                      go_wp2_with fail
                      go_meet
                      exact ⟨A6, c6, A7, c7, A8, c8, K5, HY5, B5⟩
            · skip
              simp only [List.getElem_toArray, List.getElem_cons_succ, List.getElem_cons_zero]
              obtain ⟨L3, V, hL3, hV, KV, bV⟩ := HS.out.one [] 122
              have ot := hid (show V.ownsRow B 122 5 (.slice (some ⟨L3, 0, none⟩) 0 0) 0 [] from by rw [← hV, ← hL3]; exact World.ownsRow_lit (base := B) (e := 122) (size := 5) _ #[] 0 (Nat.le_trans hUB.out OW.out.size) (by unfold maxLen; omega) (by rw [Nat.zero_mul]; rfl))
              replace HS := hid (KV.out.sub (l' := [(R, enC y, 62), (Q, [txt x.n, .int .i64 x.g.w, .int .i64 x.g.d, .int .i64 x.g.s, .slice A0 x.rm.length c0, .slice A1 x.wk.length c1, .slice A2 x.ps.length c2, .slice A3 k c3, .slice none 0 0, .slice none 0 0, .slice none 0 0, .int .i64 x.w0, .int .i64 x.w1, .int .i64 x.w2, .int .i64 x.w3], 34), (D, [.string ⟨#[]⟩, .int .i64 0, .int .i64 0, .int .i64 0, .slice none 0 0, .slice none 0 0, .slice none 0 0, .slice none 0 0, .slice none 0 0, .slice none 0 0, .slice none 0 0, .int .i64 0, .int .i64 0, .int .i64 0, .int .i64 0], 34), (G, pbc x, 34)]) (by simp))
              replace OW := hid (OW.out.trans (bV.mono (Nat.le_trans hUB.out OW.out.size)))
              go_simp
              clear KV bV
              refine hK.out _ _ (SL.one3 trivial HS.out) (fun hHeld => ?_)
              clear hK KK hHeld
              try simp only [pt, List.set]
              clear hV hL3
              refine wpAnyL_ready (rs := [2, 7]) (by kernel_rfl) (by simp) ?_
              refine (AllReadyL.cons rfl (fun KK hK => ?_) (AllReadyL.cons rfl (fun KK hK => ?_) AllReadyL.nil))
              · skip
                simp only [List.getElem_toArray, List.getElem_cons_succ, List.getElem_cons_zero]
                go_simp
                refine (HCy.out _ HS.out.2).mono ?_
                rintro e Y ⟨A6, n6, c6, rfl, ⟨rfl, ho⟩, bz⟩
                replace ot := hid (own_below ot.out bz)
                have oi := hid (own_mono ho (show B ≤ _ from Nat.le_trans hUB.out OW.out.size))
                replace HS := hid (HS.out.next bz)
                replace OW := hid (OW.out.trans (bz.mono (Nat.le_trans hUB.out OW.out.size)))
                clear ho bz
                refine hK.out _ _ (SL.one3 trivial HS.out) (fun hHeld => ?_)
                clear hK KK hHeld
                try simp only [pt, List.set]
                refine takeL 11 96 (.pointer (some ⟨R, 3, none⟩)) rfl rfl (by kernel_rfl) (by kernel_rfl) (by kernel_rfl) (by rfl) (fun _ _ _ h => h) (by kernel_rfl) (fun X hX => by clear hX; first | rfl | go_simp) (SL.one3 trivial HS.out) ?_
                simp only [pt, List.set]
                refine wpAnyL_ready (rs := [6, 7]) (by kernel_rfl) (by simp) ?_
                refine (AllReadyL.cons rfl (fun KK hK => ?_) (AllReadyL.cons rfl (fun KK hK => ?_) AllReadyL.nil))
                · skip
                  refine step_append_srcN rfl (.tmp 88) (.tmp 90) 59 59 rfl B 122 it (.agg #[.int .u32 0, .int .u8 0, .int .i64 0, .int .i64 0, .int .i64 0]) 5 32 Tryz.underlying59 hit hzt0 hzt1 hzt2 rfl _ _ _ (by rfl) ot.out _ _ _ (by rfl) (HSt.out _ HS.out.2) t1 t2 (Nat.le_trans hUB.out OW.out.size) ?_
                  intro v6 w5 hown hgrow
                  have bC := (Below.refl B _).grown hgrow (Nat.le_trans hUB.out OW.out.size) (fun k hk => (ot.out.lt k hk).1)
                  replace oi := hid (own_grown17 oi.out ot.out (by decide) hgrow)
                  rw [Nat.zero_add] at hown
                  replace ot := hid hown
                  replace HS := hid (HS.out.grown17 bC HBR.out.1 (by simp only [List.mem_cons, List.not_mem_nil, or_false]; have := HBR.out; rintro p (rfl | rfl | rfl | rfl) <;> (simp only; omega)))
                  replace OW := hid (OW.out.trans bC)
                  clear hown hgrow bC
                  refine hK.out _ _ (SL.one3 trivial HS.out) (fun hHeld => ?_)
                  clear hK KK hHeld
                  (try simp only [Act.put]); (try simp only [List.setIfInBounds_toArray])
                  refine wpAnyL_ready (rs := [7]) (by kernel_rfl) (by simp) ?_
                  refine (AllReadyL.cons rfl (fun KK hK => ?_) AllReadyL.nil)
                  · skip
                    simp only [List.getElem_toArray, List.getElem_cons_succ, List.getElem_cons_zero]
                    obtain ⟨L7, V, hL7, hV, KV, bV⟩ := HS.out.one [] 124
                    replace oi := hid (own_below oi.out bV)
                    replace ot := hid (own_below ot.out bV)
                    have op := hid (show V.ownsRow B 124 2 (.slice (some ⟨L7, 0, none⟩) 0 0) 0 [] from by rw [← hV, ← hL7]; exact World.ownsRow_lit (base := B) (e := 124) (size := 2) _ #[] 0 (Nat.le_trans hUB.out OW.out.size) (by unfold maxLen; omega) (by rw [Nat.zero_mul]; rfl))
                    replace HS := hid (KV.out.sub (l' := [(R, enC y, 62), (Q, [txt x.n, .int .i64 x.g.w, .int .i64 x.g.d, .int .i64 x.g.s, .slice A0 x.rm.length c0, .slice A1 x.wk.length c1, .slice A2 x.ps.length c2, .slice A3 k c3, .slice none 0 0, .slice none 0 0, .slice none 0 0, .int .i64 x.w0, .int .i64 x.w1, .int .i64 x.w2, .int .i64 x.w3], 34), (D, [.string ⟨#[]⟩, .int .i64 0, .int .i64 0, .int .i64 0, .slice none 0 0, .slice none 0 0, .slice none 0 0, .slice none 0 0, .slice none 0 0, .slice none 0 0, .slice none 0 0, .int .i64 0, .int .i64 0, .int .i64 0, .int .i64 0], 34), (G, pbc x, 34)]) (by simp))
                    replace OW := hid (OW.out.trans (bV.mono (Nat.le_trans hUB.out OW.out.size)))
                    go_simp
                    clear KV bV
                    refine hK.out _ _ (SL.one3 trivial HS.out) (fun hHeld => ?_)
                    clear hK KK hHeld
                    try simp only [pt, List.set]
                    clear hV hL7
                    refine wpAnyL_ready (rs := [10]) (by kernel_rfl) (by simp) ?_
                    refine (AllReadyL.cons rfl (fun KK hK => ?_) AllReadyL.nil)
                    · skip
                      refine step_append_srcN rfl (.tmp 92) (.tmp 94) 60 60 rfl B 124 ip (.agg #[.int .i64 0, .int .i64 0]) 2 16 Tryz.underlying60 hip hzp0 hzp1 hzp2 rfl _ _ _ (by rfl) op.out _ _ _ (by rfl) (HSl.out _ HS.out.2) l1 l2 (Nat.le_trans hUB.out OW.out.size) ?_
                      intro v10 w5 hown hgrow
                      have bC := (Below.refl B _).grown hgrow (Nat.le_trans hUB.out OW.out.size) (fun k hk => (op.out.lt k hk).1)
                      replace oi := hid (own_grown17 oi.out op.out (by decide) hgrow)
                      replace ot := hid (own_grown17 ot.out op.out (by decide) hgrow)
                      rw [Nat.zero_add] at hown
                      replace op := hid hown
                      replace HS := hid (HS.out.grown17 bC HBR.out.1 (by simp only [List.mem_cons, List.not_mem_nil, or_false]; have := HBR.out; rintro p (rfl | rfl | rfl | rfl) <;> (simp only; omega)))
                      replace OW := hid (OW.out.trans bC)
                      clear hown hgrow bC
                      refine hK.out _ _ (SL.one3 trivial HS.out) (fun hHeld => ?_)
                      clear hK KK hHeld
                      (try simp only [Act.put]); (try simp only [List.setIfInBounds_toArray])
                      have hv6 : ∃ A7 c7, v6 = .slice A7 y.x.t.length c7 := by
                       rcases ot.out.2 with ⟨e, h0⟩ | ⟨g, cap, cur, e, _⟩
                       · exact ⟨none, 0, by rw [e, h0]⟩
                       · exact ⟨_, _, e⟩
                      have hv10 : ∃ A8 c8, v10 = .slice A8 y.x.l.length c8 := by
                       rcases op.out.2 with ⟨e, h0⟩ | ⟨g, cap, cur, e, _⟩
                       · exact ⟨none, 0, by rw [e, h0]⟩
                       · exact ⟨_, _, e⟩
                      obtain ⟨A7, c7, rfl⟩ := hv6
                      obtain ⟨A8, c8, rfl⟩ := hv10
                      have gz := (HS.out.at_ (b := R) (cs := enC y) (t := 62) (by simp)).free
                      have f33 := gz 3
                      have z33 := HS.out.cell (b := R) (cs := enC y) (t := 62) (by simp) (k := 3) rfl
                      have f34 := gz 4
                      have z34 := HS.out.cell (b := R) (cs := enC y) (t := 62) (by simp) (k := 4) rfl
                      have f35 := gz 5
                      have z35 := HS.out.cell (b := R) (cs := enC y) (t := 62) (by simp) (k := 5) rfl
                      clear gz
                      obtain ⟨X1, hX1⟩ : ∃ X, w5.setCell ⟨R, 3, none⟩ (.slice A6 y.x.p.length c6) = X := ⟨_, rfl⟩
                      obtain ⟨X2, hX2⟩ : ∃ X, X1.setCell ⟨R, 4, none⟩ (.slice A7 y.x.t.length c7) = X := ⟨_, rfl⟩
                      obtain ⟨X3, hX3⟩ : ∃ X, X2.setCell ⟨R, 5, none⟩ (.slice A8 y.x.l.length c8) = X := ⟨_, rfl⟩
                      have K1 := hid (show Mem w X1 [(R, [txt y.x.n, .int .i64 y.x.s, .int .u16 (y.x.g : Int), .slice A6 y.x.p.length c6, .slice y.r.b y.x.t.length y.r.bc, .slice y.r.c y.x.l.length y.r.cc, .int .i64 y.x.o], 62), (Q, [txt x.n, .int .i64 x.g.w, .int .i64 x.g.d, .int .i64 x.g.s, .slice A0 x.rm.length c0, .slice A1 x.wk.length c1, .slice A2 x.ps.length c2, .slice A3 k c3, .slice none 0 0, .slice none 0 0, .slice none 0 0, .int .i64 x.w0, .int .i64 x.w1, .int .i64 x.w2, .int .i64 x.w3], 34), (D, [.string ⟨#[]⟩, .int .i64 0, .int .i64 0, .int .i64 0, .slice none 0 0, .slice none 0 0, .slice none 0 0, .slice none 0 0, .slice none 0 0, .slice none 0 0, .slice none 0 0, .int .i64 0, .int .i64 0, .int .i64 0, .int .i64 0], 34), (G, pbc x, 34)] from hX1 ▸ HS.out.set HRw.out.1 HRN.out 3 _)
                      have K2 := hid (show Mem w X2 [(R, [txt y.x.n, .int .i64 y.x.s, .int .u16 (y.x.g : Int), .slice A6 y.x.p.length c6, .slice A7 y.x.t.length c7, .slice y.r.c y.x.l.length y.r.cc, .int .i64 y.x.o], 62), (Q, [txt x.n, .int .i64 x.g.w, .int .i64 x.g.d, .int .i64 x.g.s, .slice A0 x.rm.length c0, .slice A1 x.wk.length c1, .slice A2 x.ps.length c2, .slice A3 k c3, .slice none 0 0, .slice none 0 0, .slice none 0 0, .int .i64 x.w0, .int .i64 x.w1, .int .i64 x.w2, .int .i64 x.w3], 34), (D, [.string ⟨#[]⟩, .int .i64 0, .int .i64 0, .int .i64 0, .slice none 0 0, .slice none 0 0, .slice none 0 0, .slice none 0 0, .slice none 0 0, .slice none 0 0, .slice none 0 0, .int .i64 0, .int .i64 0, .int .i64 0, .int .i64 0], 34), (G, pbc x, 34)] from hX2 ▸ K1.out.set HRw.out.1 HRN.out 4 _)
                      have K5 := hid (show Mem w X3 [(R, enC ⟨y.x, ⟨A6, c6, A7, c7, A8, c8⟩⟩, 62), (Q, [txt x.n, .int .i64 x.g.w, .int .i64 x.g.d, .int .i64 x.g.s, .slice A0 x.rm.length c0, .slice A1 x.wk.length c1, .slice A2 x.ps.length c2, .slice A3 k c3, .slice none 0 0, .slice none 0 0, .slice none 0 0, .int .i64 x.w0, .int .i64 x.w1, .int .i64 x.w2, .int .i64 x.w3], 34), (D, [.string ⟨#[]⟩, .int .i64 0, .int .i64 0, .int .i64 0, .slice none 0 0, .slice none 0 0, .slice none 0 0, .slice none 0 0, .slice none 0 0, .slice none 0 0, .slice none 0 0, .int .i64 0, .int .i64 0, .int .i64 0, .int .i64 0], 34), (G, pbc x, 34)] from hX3 ▸ K2.out.set HRw.out.1 HRN.out 5 _)
                      have g4 := (K1.out.at_ (b := R) (cs := [txt y.x.n, .int .i64 y.x.s, .int .u16 (y.x.g : Int), .slice A6 y.x.p.length c6, .slice y.r.b y.x.t.length y.r.bc, .slice y.r.c y.x.l.length y.r.cc, .int .i64 y.x.o]) (t := 62) (by simp)).free 4
                      have y4 := K1.out.cell (b := R) (cs := [txt y.x.n, .int .i64 y.x.s, .int .u16 (y.x.g : Int), .slice A6 y.x.p.length c6, .slice y.r.b y.x.t.length y.r.bc, .slice y.r.c y.x.l.length y.r.cc, .int .i64 y.x.o]) (t := 62) (by simp) (k := 4) rfl
                      have g5 := (K2.out.at_ (b := R) (cs := [txt y.x.n, .int .i64 y.x.s, .int .u16 (y.x.g : Int), .slice A6 y.x.p.length c6, .slice A7 y.x.t.length c7, .slice y.r.c y.x.l.length y.r.cc, .int .i64 y.x.o]) (t := 62) (by simp)).free 5
                      have y5 := K2.out.cell (b := R) (cs := [txt y.x.n, .int .i64 y.x.s, .int .u16 (y.x.g : Int), .slice A6 y.x.p.length c6, .slice A7 y.x.t.length c7, .slice y.r.c y.x.l.length y.r.cc, .int .i64 y.x.o]) (t := 62) (by simp) (k := 5) rfl
                      have HAv := hid (show Abv B w5 X3 from hX3 ▸ hX2 ▸ hX1 ▸ ((Abv.set _ _ _ HBR.out.2.1).trans (Abv.set _ _ _ HBR.out.2.1)).trans (Abv.set _ _ _ HBR.out.2.1))
                      have HY5 := hid (show ClE C ⟨y.x, ⟨A6, c6, A7, c7, A8, c8⟩⟩ X3 from ⟨own_mono (own_abv oi.out HAv.out) HBR.out.2.2.2.2.2, own_mono (own_abv ot.out HAv.out) HBR.out.2.2.2.2.2, own_mono (own_abv op.out HAv.out) HBR.out.2.2.2.2.2⟩)
                      have B5 := hid (show Below wr.heap.size wr X3 from hX3 ▸ hX2 ▸ hX1 ▸ (((B3.out.trans (OW.out.mono (by have := HB.out; have := B3.out.size; omega))).setCell (p := ⟨R, 3, none⟩) HRr.out _).setCell (p := ⟨R, 4, none⟩) HRr.out _).setCell (p := ⟨R, 5, none⟩) HRr.out _)
                      refine wpAnyL_ready (rs := [12]) (by kernel_rfl) (by simp) ?_
                      refine (AllReadyL.cons rfl (fun KK hK => ?_) AllReadyL.nil)
                      simp only [List.getElem_toArray, List.getElem_cons_succ, List.getElem_cons_zero]
                      go_simp
                      refine hK.out _ _ (SL.past3 trivial (by kernel_rfl) (by kernel_rfl) (by kernel_rfl)) (fun hHeld => ?_)
                      clear hK KK hHeld
                      try simp only [pt, List.set]
                      refine takeL 13 97 (.pointer (some ⟨R, 4, none⟩)) rfl rfl (by kernel_rfl) (by kernel_rfl) (by kernel_rfl) (by rfl) (fun _ _ _ h => h) (by kernel_rfl) (fun X hX => by clear hX; first | rfl | go_simp) (SL.past3 trivial (by kernel_rfl) (by kernel_rfl) (by kernel_rfl)) ?_
                      simp only [pt, List.set]
                      refine wpAnyL_ready (rs := [14]) (by kernel_rfl) (by simp) ?_
                      refine (AllReadyL.cons rfl (fun KK hK => ?_) AllReadyL.nil)
                      simp only [List.getElem_toArray, List.getElem_cons_succ, List.getElem_cons_zero]
                      go_simp
                      refine hK.out _ _ (SL.past3 trivial (by kernel_rfl) (by kernel_rfl) (by kernel_rfl)) (fun hHeld => ?_)
                      clear hK KK hHeld
                      try simp only [pt, List.set]
                      refine takeL 15 98 (.pointer (some ⟨R, 5, none⟩)) rfl rfl (by kernel_rfl) (by kernel_rfl) (by kernel_rfl) (by rfl) (fun _ _ _ h => h) (by kernel_rfl) (fun X hX => by clear hX; first | rfl | go_simp) (SL.past3 trivial (by kernel_rfl) (by kernel_rfl) (by kernel_rfl)) ?_
                      simp only [pt, List.set]
                      refine wpAnyL_ready (rs := [16]) (by kernel_rfl) (by simp) ?_
                      refine (AllReadyL.cons rfl (fun KK hK => ?_) AllReadyL.nil)
                      simp only [List.getElem_toArray, List.getElem_cons_succ, List.getElem_cons_zero]
                      go_simp
                      refine hK.out _ _ (SL.past3 trivial (by kernel_rfl) (by kernel_rfl) (by kernel_rfl)) (fun hHeld => ?_)
                      clear hK KK hHeld
                      try simp only [pt, List.set]
                      refine wpAnyL_done (by kernel_rfl) ?_ _
                      go_wp2_with fail
                      go_meet
                      exact ⟨A6, c6, A7, c7, A8, c8, K5, HY5, B5⟩
                · skip
                  simp only [List.getElem_toArray, List.getElem_cons_succ, List.getElem_cons_zero]
                  obtain ⟨L7, V, hL7, hV, KV, bV⟩ := HS.out.one [] 124
                  replace oi := hid (own_below oi.out bV)
                  replace ot := hid (own_below ot.out bV)
                  have op := hid (show V.ownsRow B 124 2 (.slice (some ⟨L7, 0, none⟩) 0 0) 0 [] from by rw [← hV, ← hL7]; exact World.ownsRow_lit (base := B) (e := 124) (size := 2) _ #[] 0 (Nat.le_trans hUB.out OW.out.size) (by unfold maxLen; omega) (by rw [Nat.zero_mul]; rfl))
                  replace HS := hid (KV.out.sub (l' := [(R, enC y, 62), (Q, [txt x.n, .int .i64 x.g.w, .int .i64 x.g.d, .int .i64 x.g.s, .slice A0 x.rm.length c0, .slice A1 x.wk.length c1, .slice A2 x.ps.length c2, .slice A3 k c3, .slice none 0 0, .slice none 0 0, .slice none 0 0, .int .i64 x.w0, .int .i64 x.w1, .int .i64 x.w2, .int .i64 x.w3], 34), (D, [.string ⟨#[]⟩, .int .i64 0, .int .i64 0, .int .i64 0, .slice none 0 0, .slice none 0 0, .slice none 0 0, .slice none 0 0, .slice none 0 0, .slice none 0 0, .slice none 0 0, .int .i64 0, .int .i64 0, .int .i64 0, .int .i64 0], 34), (G, pbc x, 34)]) (by simp))
                  replace OW := hid (OW.out.trans (bV.mono (Nat.le_trans hUB.out OW.out.size)))
                  go_simp
                  clear KV bV
                  refine hK.out _ _ (SL.one3 trivial HS.out) (fun hHeld => ?_)
                  clear hK KK hHeld
                  try simp only [pt, List.set]
                  clear hV hL7
                  refine wpAnyL_ready (rs := [6]) (by kernel_rfl) (by simp) ?_
                  refine (AllReadyL.cons rfl (fun KK hK => ?_) AllReadyL.nil)
                  · skip
                    refine step_append_srcN rfl (.tmp 88) (.tmp 90) 59 59 rfl B 122 it (.agg #[.int .u32 0, .int .u8 0, .int .i64 0, .int .i64 0, .int .i64 0]) 5 32 Tryz.underlying59 hit hzt0 hzt1 hzt2 rfl _ _ _ (by rfl) ot.out _ _ _ (by rfl) (HSt.out _ HS.out.2) t1 t2 (Nat.le_trans hUB.out OW.out.size) ?_
                    intro v6 w5 hown hgrow
                    have bC := (Below.refl B _).grown hgrow (Nat.le_trans hUB.out OW.out.size) (fun k hk => (ot.out.lt k hk).1)
                    replace oi := hid (own_grown17 oi.out ot.out (by decide) hgrow)
                    replace op := hid (own_grown17 op.out ot.out (by decide) hgrow)
                    rw [Nat.zero_add] at hown
                    replace ot := hid hown
                    replace HS := hid (HS.out.grown17 bC HBR.out.1 (by simp only [List.mem_cons, List.not_mem_nil, or_false]; have := HBR.out; rintro p (rfl | rfl | rfl | rfl) <;> (simp only; omega)))
                    replace OW := hid (OW.out.trans bC)
                    clear hown hgrow bC
                    refine hK.out _ _ (SL.one3 trivial HS.out) (fun hHeld => ?_)
                    clear hK KK hHeld
                    (try simp only [Act.put]); (try simp only [List.setIfInBounds_toArray])
                    refine wpAnyL_ready (rs := [10]) (by kernel_rfl) (by simp) ?_
                    refine (AllReadyL.cons rfl (fun KK hK => ?_) AllReadyL.nil)
                    · skip
                      refine step_append_srcN rfl (.tmp 92) (.tmp 94) 60 60 rfl B 124 ip (.agg #[.int .i64 0, .int .i64 0]) 2 16 Tryz.underlying60 hip hzp0 hzp1 hzp2 rfl _ _ _ (by rfl) op.out _ _ _ (by rfl) (HSl.out _ HS.out.2) l1 l2 (Nat.le_trans hUB.out OW.out.size) ?_
                      intro v10 w5 hown hgrow
                      have bC := (Below.refl B _).grown hgrow (Nat.le_trans hUB.out OW.out.size) (fun k hk => (op.out.lt k hk).1)
                      replace oi := hid (own_grown17 oi.out op.out (by decide) hgrow)
                      replace ot := hid (own_grown17 ot.out op.out (by decide) hgrow)
                      rw [Nat.zero_add] at hown
                      replace op := hid hown
                      replace HS := hid (HS.out.grown17 bC HBR.out.1 (by simp only [List.mem_cons, List.not_mem_nil, or_false]; have := HBR.out; rintro p (rfl | rfl | rfl | rfl) <;> (simp only; omega)))
                      replace OW := hid (OW.out.trans bC)
                      clear hown hgrow bC
                      refine hK.out _ _ (SL.one3 trivial HS.out) (fun hHeld => ?_)
                      clear hK KK hHeld
                      (try simp only [Act.put]); (try simp only [List.setIfInBounds_toArray])
                      have hv6 : ∃ A7 c7, v6 = .slice A7 y.x.t.length c7 := by
                       rcases ot.out.2 with ⟨e, h0⟩ | ⟨g, cap, cur, e, _⟩
                       · exact ⟨none, 0, by rw [e, h0]⟩
                       · exact ⟨_, _, e⟩
                      have hv10 : ∃ A8 c8, v10 = .slice A8 y.x.l.length c8 := by
                       rcases op.out.2 with ⟨e, h0⟩ | ⟨g, cap, cur, e, _⟩
                       · exact ⟨none, 0, by rw [e, h0]⟩
                       · exact ⟨_, _, e⟩
                      obtain ⟨A7, c7, rfl⟩ := hv6
                      obtain ⟨A8, c8, rfl⟩ := hv10
                      have gz := (HS.out.at_ (b := R) (cs := enC y) (t := 62) (by simp)).free
                      have f33 := gz 3
                      have z33 := HS.out.cell (b := R) (cs := enC y) (t := 62) (by simp) (k := 3) rfl
                      have f34 := gz 4
                      have z34 := HS.out.cell (b := R) (cs := enC y) (t := 62) (by simp) (k := 4) rfl
                      have f35 := gz 5
                      have z35 := HS.out.cell (b := R) (cs := enC y) (t := 62) (by simp) (k := 5) rfl
                      clear gz
                      obtain ⟨X1, hX1⟩ : ∃ X, w5.setCell ⟨R, 3, none⟩ (.slice A6 y.x.p.length c6) = X := ⟨_, rfl⟩
                      obtain ⟨X2, hX2⟩ : ∃ X, X1.setCell ⟨R, 4, none⟩ (.slice A7 y.x.t.length c7) = X := ⟨_, rfl⟩
                      obtain ⟨X3, hX3⟩ : ∃ X, X2.setCell ⟨R, 5, none⟩ (.slice A8 y.x.l.length c8) = X := ⟨_, rfl⟩
                      have K1 := hid (show Mem w X1 [(R, [txt y.x.n, .int .i64 y.x.s, .int .u16 (y.x.g : Int), .slice A6 y.x.p.length c6, .slice y.r.b y.x.t.length y.r.bc, .slice y.r.c y.x.l.length y.r.cc, .int .i64 y.x.o], 62), (Q, [txt x.n, .int .i64 x.g.w, .int .i64 x.g.d, .int .i64 x.g.s, .slice A0 x.rm.length c0, .slice A1 x.wk.length c1, .slice A2 x.ps.length c2, .slice A3 k c3, .slice none 0 0, .slice none 0 0, .slice none 0 0, .int .i64 x.w0, .int .i64 x.w1, .int .i64 x.w2, .int .i64 x.w3], 34), (D, [.string ⟨#[]⟩, .int .i64 0, .int .i64 0, .int .i64 0, .slice none 0 0, .slice none 0 0, .slice none 0 0, .slice none 0 0, .slice none 0 0, .slice none 0 0, .slice none 0 0, .int .i64 0, .int .i64 0, .int .i64 0, .int .i64 0], 34), (G, pbc x, 34)] from hX1 ▸ HS.out.set HRw.out.1 HRN.out 3 _)
                      have K2 := hid (show Mem w X2 [(R, [txt y.x.n, .int .i64 y.x.s, .int .u16 (y.x.g : Int), .slice A6 y.x.p.length c6, .slice A7 y.x.t.length c7, .slice y.r.c y.x.l.length y.r.cc, .int .i64 y.x.o], 62), (Q, [txt x.n, .int .i64 x.g.w, .int .i64 x.g.d, .int .i64 x.g.s, .slice A0 x.rm.length c0, .slice A1 x.wk.length c1, .slice A2 x.ps.length c2, .slice A3 k c3, .slice none 0 0, .slice none 0 0, .slice none 0 0, .int .i64 x.w0, .int .i64 x.w1, .int .i64 x.w2, .int .i64 x.w3], 34), (D, [.string ⟨#[]⟩, .int .i64 0, .int .i64 0, .int .i64 0, .slice none 0 0, .slice none 0 0, .slice none 0 0, .slice none 0 0, .slice none 0 0, .slice none 0 0, .slice none 0 0, .int .i64 0, .int .i64 0, .int .i64 0, .int .i64 0], 34), (G, pbc x, 34)] from hX2 ▸ K1.out.set HRw.out.1 HRN.out 4 _)
                      have K5 := hid (show Mem w X3 [(R, enC ⟨y.x, ⟨A6, c6, A7, c7, A8, c8⟩⟩, 62), (Q, [txt x.n, .int .i64 x.g.w, .int .i64 x.g.d, .int .i64 x.g.s, .slice A0 x.rm.length c0, .slice A1 x.wk.length c1, .slice A2 x.ps.length c2, .slice A3 k c3, .slice none 0 0, .slice none 0 0, .slice none 0 0, .int .i64 x.w0, .int .i64 x.w1, .int .i64 x.w2, .int .i64 x.w3], 34), (D, [.string ⟨#[]⟩, .int .i64 0, .int .i64 0, .int .i64 0, .slice none 0 0, .slice none 0 0, .slice none 0 0, .slice none 0 0, .slice none 0 0, .slice none 0 0, .slice none 0 0, .int .i64 0, .int .i64 0, .int .i64 0, .int .i64 0], 34), (G, pbc x, 34)] from hX3 ▸ K2.out.set HRw.out.1 HRN.out 5 _)
                      have g4 := (K1.out.at_ (b := R) (cs := [txt y.x.n, .int .i64 y.x.s, .int .u16 (y.x.g : Int), .slice A6 y.x.p.length c6, .slice y.r.b y.x.t.length y.r.bc, .slice y.r.c y.x.l.length y.r.cc, .int .i64 y.x.o]) (t := 62) (by simp)).free 4
                      have y4 := K1.out.cell (b := R) (cs := [txt y.x.n, .int .i64 y.x.s, .int .u16 (y.x.g : Int), .slice A6 y.x.p.length c6, .slice y.r.b y.x.t.length y.r.bc, .slice y.r.c y.x.l.length y.r.cc, .int .i64 y.x.o]) (t := 62) (by simp) (k := 4) rfl
                      have g5 := (K2.out.at_ (b := R) (cs := [txt y.x.n, .int .i64 y.x.s, .int .u16 (y.x.g : Int), .slice A6 y.x.p.length c6, .slice A7 y.x.t.length c7, .slice y.r.c y.x.l.length y.r.cc, .int .i64 y.x.o]) (t := 62) (by simp)).free 5
                      have y5 := K2.out.cell (b := R) (cs := [txt y.x.n, .int .i64 y.x.s, .int .u16 (y.x.g : Int), .slice A6 y.x.p.length c6, .slice A7 y.x.t.length c7, .slice y.r.c y.x.l.length y.r.cc, .int .i64 y.x.o]) (t := 62) (by simp) (k := 5) rfl
                      have HAv := hid (show Abv B w5 X3 from hX3 ▸ hX2 ▸ hX1 ▸ ((Abv.set _ _ _ HBR.out.2.1).trans (Abv.set _ _ _ HBR.out.2.1)).trans (Abv.set _ _ _ HBR.out.2.1))
                      have HY5 := hid (show ClE C ⟨y.x, ⟨A6, c6, A7, c7, A8, c8⟩⟩ X3 from ⟨own_mono (own_abv oi.out HAv.out) HBR.out.2.2.2.2.2, own_mono (own_abv ot.out HAv.out) HBR.out.2.2.2.2.2, own_mono (own_abv op.out HAv.out) HBR.out.2.2.2.2.2⟩)
                      have B5 := hid (show Below wr.heap.size wr X3 from hX3 ▸ hX2 ▸ hX1 ▸ (((B3.out.trans (OW.out.mono (by have := HB.out; have := B3.out.size; omega))).setCell (p := ⟨R, 3, none⟩) HRr.out _).setCell (p := ⟨R, 4, none⟩) HRr.out _).setCell (p := ⟨R, 5, none⟩) HRr.out _)
                      refine wpAnyL_ready (rs := [12]) (by kernel_rfl) (by simp) ?_
                      refine (AllReadyL.cons rfl (fun KK hK => ?_) AllReadyL.nil)
                      simp only [List.getElem_toArray, List.getElem_cons_succ, List.getElem_cons_zero]
                      go_simp
                      refine hK.out _ _ (SL.past3 trivial (by kernel_rfl) (by kernel_rfl) (by kernel_rfl)) (fun hHeld => ?_)
                      clear hK KK hHeld
                      try simp only [pt, List.set]
                      refine takeL 13 97 (.pointer (some ⟨R, 4, none⟩)) rfl rfl (by kernel_rfl) (by kernel_rfl) (by kernel_rfl) (by rfl) (fun _ _ _ h => h) (by kernel_rfl) (fun X hX => by clear hX; first | rfl | go_simp) (SL.past3 trivial (by kernel_rfl) (by kernel_rfl) (by kernel_rfl)) ?_
                      simp only [pt, List.set]
                      refine wpAnyL_ready (rs := [14]) (by kernel_rfl) (by simp) ?_
                      refine (AllReadyL.cons rfl (fun KK hK => ?_) AllReadyL.nil)
                      simp only [List.getElem_toArray, List.getElem_cons_succ, List.getElem_cons_zero]
                      go_simp
                      refine hK.out _ _ (SL.past3 trivial (by kernel_rfl) (by kernel_rfl) (by kernel_rfl)) (fun hHeld => ?_)
                      clear hK KK hHeld
                      try simp only [pt, List.set]
                      refine takeL 15 98 (.pointer (some ⟨R, 5, none⟩)) rfl rfl (by kernel_rfl) (by kernel_rfl) (by kernel_rfl) (by rfl) (fun _ _ _ h => h) (by kernel_rfl) (fun X hX => by clear hX; first | rfl | go_simp) (SL.past3 trivial (by kernel_rfl) (by kernel_rfl) (by kernel_rfl)) ?_
                      simp only [pt, List.set]
                      refine wpAnyL_ready (rs := [16]) (by kernel_rfl) (by simp) ?_
                      refine (AllReadyL.cons rfl (fun KK hK => ?_) AllReadyL.nil)
                      simp only [List.getElem_toArray, List.getElem_cons_succ, List.getElem_cons_zero]
                      go_simp
                      refine hK.out _ _ (SL.past3 trivial (by kernel_rfl) (by kernel_rfl) (by kernel_rfl)) (fun hHeld => ?_)
                      clear hK KK hHeld
                      try simp only [pt, List.set]
                      refine wpAnyL_done (by kernel_rfl) ?_ _
                      go_wp2_with fail
                      go_meet
                      exact ⟨A6, c6, A7, c7, A8, c8, K5, HY5, B5⟩
              · skip
                simp only [List.getElem_toArray, List.getElem_cons_succ, List.getElem_cons_zero]
                obtain ⟨L7, V, hL7, hV, KV, bV⟩ := HS.out.one [] 124
                replace ot := hid (own_below ot.out bV)
                have op := hid (show V.ownsRow B 124 2 (.slice (some ⟨L7, 0, none⟩) 0 0) 0 [] from by rw [← hV, ← hL7]; exact World.ownsRow_lit (base := B) (e := 124) (size := 2) _ #[] 0 (Nat.le_trans hUB.out OW.out.size) (by unfold maxLen; omega) (by rw [Nat.zero_mul]; rfl))
                replace HS := hid (KV.out.sub (l' := [(R, enC y, 62), (Q, [txt x.n, .int .i64 x.g.w, .int .i64 x.g.d, .int .i64 x.g.s, .slice A0 x.rm.length c0, .slice A1 x.wk.length c1, .slice A2 x.ps.length c2, .slice A3 k c3, .slice none 0 0, .slice none 0 0, .slice none 0 0, .int .i64 x.w0, .int .i64 x.w1, .int .i64 x.w2, .int .i64 x.w3], 34), (D, [.string ⟨#[]⟩, .int .i64 0, .int .i64 0, .int .i64 0, .slice none 0 0, .slice none 0 0, .slice none 0 0, .slice none 0 0, .slice none 0 0, .slice none 0 0, .slice none 0 0, .int .i64 0, .int .i64 0, .int .i64 0, .int .i64 0], 34), (G, pbc x, 34)]) (by simp))
                replace OW := hid (OW.out.trans (bV.mono (Nat.le_trans hUB.out OW.out.size)))
                go_simp
                clear KV bV
                refine hK.out _ _ (SL.one3 trivial HS.out) (fun hHeld => ?_)
                clear hK KK hHeld
                try simp only [pt, List.set]
                clear hV hL7
                refine wpAnyL_ready (rs := [2]) (by kernel_rfl) (by simp) ?_
                refine (AllReadyL.cons rfl (fun KK hK => ?_) AllReadyL.nil)
                · skip
                  simp only [List.getElem_toArray, List.getElem_cons_succ, List.getElem_cons_zero]
                  go_simp
                  refine (HCy.out _ HS.out.2).mono ?_
                  rintro e Y ⟨A6, n6, c6, rfl, ⟨rfl, ho⟩, bz⟩
                  replace ot := hid (own_below ot.out bz)
                  replace op := hid (own_below op.out bz)
                  have oi := hid (own_mono ho (show B ≤ _ from Nat.le_trans hUB.out OW.out.size))
                  replace HS := hid (HS.out.next bz)
                  replace OW := hid (OW.out.trans (bz.mono (Nat.le_trans hUB.out OW.out.size)))
                  clear ho bz
                  refine hK.out _ _ (SL.one3 trivial HS.out) (fun hHeld => ?_)
                  clear hK KK hHeld
                  try simp only [pt, List.set]
                  refine takeL 11 96 (.pointer (some ⟨R, 3, none⟩)) rfl rfl (by kernel_rfl) (by kernel_rfl) (by kernel_rfl) (by rfl) (fun _ _ _ h => h) (by kernel_rfl) (fun X hX => by clear hX; first | rfl | go_simp) (SL.one3 trivial HS.out) ?_
                  simp only [pt, List.set]
                  refine wpAnyL_ready (rs := [6]) (by kernel_rfl) (by simp) ?_
                  refine (AllReadyL.cons rfl (fun KK hK => ?_) AllReadyL.nil)
                  · skip
                    refine step_append_srcN rfl (.tmp 88) (.tmp 90) 59 59 rfl B 122 it (.agg #[.int .u32 0, .int .u8 0, .int .i64 0, .int .i64 0, .int .i64 0]) 5 32 Tryz.underlying59 hit hzt0 hzt1 hzt2 rfl _ _ _ (by rfl) ot.out _ _ _ (by rfl) (HSt.out _ HS.out.2) t1 t2 (Nat.le_trans hUB.out OW.out.size) ?_
                    intro v6 w5 hown hgrow
                    have bC := (Below.refl B _).grown hgrow (Nat.le_trans hUB.out OW.out.size) (fun k hk => (ot.out.lt k hk).1)
                    replace oi := hid (own_grown17 oi.out ot.out (by decide) hgrow)
                    replace op := hid (own_grown17 op.out ot.out (by decide) hgrow)
                    rw [Nat.zero_add] at hown
                    replace ot := hid hown
                    replace HS := hid (HS.out.grown17 bC HBR.out.1 (by simp only [List.mem_cons, List.not_mem_nil, or_false]; have := HBR.out; rintro p (rfl | rfl | rfl | rfl) <;> (simp only; omega)))
                    replace OW := hid (OW.out.trans bC)
                    clear hown hgrow bC
                    refine hK.out _ _ (SL.one3 trivial HS.out) (fun hHeld => ?_)
                    clear hK KK hHeld
                    (try simp only [Act.put]); (try simp only [List.setIfInBounds_toArray])
                    refine wpAnyL_ready (rs := [10]) (by kernel_rfl) (by simp) ?_
                    refine (AllReadyL.cons rfl (fun KK hK => ?_) AllReadyL.nil)
                    · skip
                      refine step_append_srcN rfl (.tmp 92) (.tmp 94) 60 60 rfl B 124 ip (.agg #[.int .i64 0, .int .i64 0]) 2 16 Tryz.underlying60 hip hzp0 hzp1 hzp2 rfl _ _ _ (by rfl) op.out _ _ _ (by rfl) (HSl.out _ HS.out.2) l1 l2 (Nat.le_trans hUB.out OW.out.size) ?_
                      intro v10 w5 hown hgrow
                      have bC := (Below.refl B _).grown hgrow (Nat.le_trans hUB.out OW.out.size) (fun k hk => (op.out.lt k hk).1)
                      replace oi := hid (own_grown17 oi.out op.out (by decide) hgrow)
                      replace ot := hid (own_grown17 ot.out op.out (by decide) hgrow)
                      rw [Nat.zero_add] at hown
                      replace op := hid hown
                      replace HS := hid (HS.out.grown17 bC HBR.out.1 (by simp only [List.mem_cons, List.not_mem_nil, or_false]; have := HBR.out; rintro p (rfl | rfl | rfl | rfl) <;> (simp only; omega)))
                      replace OW := hid (OW.out.trans bC)
                      clear hown hgrow bC
                      refine hK.out _ _ (SL.one3 trivial HS.out) (fun hHeld => ?_)
                      clear hK KK hHeld
                      (try simp only [Act.put]); (try simp only [List.setIfInBounds_toArray])
                      have hv6 : ∃ A7 c7, v6 = .slice A7 y.x.t.length c7 := by
                       rcases ot.out.2 with ⟨e, h0⟩ | ⟨g, cap, cur, e, _⟩
                       · exact ⟨none, 0, by rw [e, h0]⟩
                       · exact ⟨_, _, e⟩
                      have hv10 : ∃ A8 c8, v10 = .slice A8 y.x.l.length c8 := by
                       rcases op.out.2 with ⟨e, h0⟩ | ⟨g, cap, cur, e, _⟩
                       · exact ⟨none, 0, by rw [e, h0]⟩
                       · exact ⟨_, _, e⟩
                      obtain ⟨A7, c7, rfl⟩ := hv6
                      obtain ⟨A8, c8, rfl⟩ := hv10
                      have gz := (HS.out.at_ (b := R) (cs := enC y) (t := 62) (by simp)).free
                      have f33 := gz 3
                      have z33 := HS.out.cell (b := R) (cs := enC y) (t := 62) (by simp) (k := 3) rfl
                      have f34 := gz 4
                      have z34 := HS.out.cell (b := R) (cs := enC y) (t := 62) (by simp) (k := 4) rfl
                      have f35 := gz 5
                      have z35 := HS.out.cell (b := R) (cs := enC y) (t := 62) (by simp) (k := 5) rfl
                      clear gz
                      obtain ⟨X1, hX1⟩ : ∃ X, w5.setCell ⟨R, 3, none⟩ (.slice A6 y.x.p.length c6) = X := ⟨_, rfl⟩
                      obtain ⟨X2, hX2⟩ : ∃ X, X1.setCell ⟨R, 4, none⟩ (.slice A7 y.x.t.length c7) = X := ⟨_, rfl⟩
                      obtain ⟨X3, hX3⟩ : ∃ X, X2.setCell ⟨R, 5, none⟩ (.slice A8 y.x.l.length c8) = X := ⟨_, rfl⟩
                      have K1 := hid (show Mem w X1 [(R, [txt y.x.n, .int .i64 y.x.s, .int .u16 (y.x.g : Int), .slice A6 y.x.p.length c6, .slice y.r.b y.x.t.length y.r.bc, .slice y.r.c y.x.l.length y.r.cc, .int .i64 y.x.o], 62), (Q, [txt x.n, .int .i64 x.g.w, .int .i64 x.g.d, .int .i64 x.g.s, .slice A0 x.rm.length c0, .slice A1 x.wk.length c1, .slice A2 x.ps.length c2, .slice A3 k c3, .slice none 0 0, .slice none 0 0, .slice none 0 0, .int .i64 x.w0, .int .i64 x.w1, .int .i64 x.w2, .int .i64 x.w3], 34), (D, [.string ⟨#[]⟩, .int .i64 0, .int .i64 0, .int .i64 0, .slice none 0 0, .slice none 0 0, .slice none 0 0, .slice none 0 0, .slice none 0 0, .slice none 0 0, .slice none 0 0, .int .i64 0, .int .i64 0, .int .i64 0, .int .i64 0], 34), (G, pbc x, 34)] from hX1 ▸ HS.out.set HRw.out.1 HRN.out 3 _)
                      have K2 := hid (show Mem w X2 [(R, [txt y.x.n, .int .i64 y.x.s, .int .u16 (y.x.g : Int), .slice A6 y.x.p.length c6, .slice A7 y.x.t.length c7, .slice y.r.c y.x.l.length y.r.cc, .int .i64 y.x.o], 62), (Q, [txt x.n, .int .i64 x.g.w, .int .i64 x.g.d, .int .i64 x.g.s, .slice A0 x.rm.length c0, .slice A1 x.wk.length c1, .slice A2 x.ps.length c2, .slice A3 k c3, .slice none 0 0, .slice none 0 0, .slice none 0 0, .int .i64 x.w0, .int .i64 x.w1, .int .i64 x.w2, .int .i64 x.w3], 34), (D, [.string ⟨#[]⟩, .int .i64 0, .int .i64 0, .int .i64 0, .slice none 0 0, .slice none 0 0, .slice none 0 0, .slice none 0 0, .slice none 0 0, .slice none 0 0, .slice none 0 0, .int .i64 0, .int .i64 0, .int .i64 0, .int .i64 0], 34), (G, pbc x, 34)] from hX2 ▸ K1.out.set HRw.out.1 HRN.out 4 _)
                      have K5 := hid (show Mem w X3 [(R, enC ⟨y.x, ⟨A6, c6, A7, c7, A8, c8⟩⟩, 62), (Q, [txt x.n, .int .i64 x.g.w, .int .i64 x.g.d, .int .i64 x.g.s, .slice A0 x.rm.length c0, .slice A1 x.wk.length c1, .slice A2 x.ps.length c2, .slice A3 k c3, .slice none 0 0, .slice none 0 0, .slice none 0 0, .int .i64 x.w0, .int .i64 x.w1, .int .i64 x.w2, .int .i64 x.w3], 34), (D, [.string ⟨#[]⟩, .int .i64 0, .int .i64 0, .int .i64 0, .slice none 0 0, .slice none 0 0, .slice none 0 0, .slice none 0 0, .slice none 0 0, .slice none 0 0, .slice none 0 0, .int .i64 0, .int .i64 0, .int .i64 0, .int .i64 0], 34), (G, pbc x, 34)] from hX3 ▸ K2.out.set HRw.out.1 HRN.out 5 _)
                      have g4 := (K1.out.at_ (b := R) (cs := [txt y.x.n, .int .i64 y.x.s, .int .u16 (y.x.g : Int), .slice A6 y.x.p.length c6, .slice y.r.b y.x.t.length y.r.bc, .slice y.r.c y.x.l.length y.r.cc, .int .i64 y.x.o]) (t := 62) (by simp)).free 4
                      have y4 := K1.out.cell (b := R) (cs := [txt y.x.n, .int .i64 y.x.s, .int .u16 (y.x.g : Int), .slice A6 y.x.p.length c6, .slice y.r.b y.x.t.length y.r.bc, .slice y.r.c y.x.l.length y.r.cc, .int .i64 y.x.o]) (t := 62) (by simp) (k := 4) rfl
                      have g5 := (K2.out.at_ (b := R) (cs := [txt y.x.n, .int .i64 y.x.s, .int .u16 (y.x.g : Int), .slice A6 y.x.p.length c6, .slice A7 y.x.t.length c7, .slice y.r.c y.x.l.length y.r.cc, .int .i64 y.x.o]) (t := 62) (by simp)).free 5
                      have y5 := K2.out.cell (b := R) (cs := [txt y.x.n, .int .i64 y.x.s, .int .u16 (y.x.g : Int), .slice A6 y.x.p.length c6, .slice A7 y.x.t.length c7, .slice y.r.c y.x.l.length y.r.cc, .int .i64 y.x.o]) (t := 62) (by simp) (k := 5) rfl
                      have HAv := hid (show Abv B w5 X3 from hX3 ▸ hX2 ▸ hX1 ▸ ((Abv.set _ _ _ HBR.out.2.1).trans (Abv.set _ _ _ HBR.out.2.1)).trans (Abv.set _ _ _ HBR.out.2.1))
                      have HY5 := hid (show ClE C ⟨y.x, ⟨A6, c6, A7, c7, A8, c8⟩⟩ X3 from ⟨own_mono (own_abv oi.out HAv.out) HBR.out.2.2.2.2.2, own_mono (own_abv ot.out HAv.out) HBR.out.2.2.2.2.2, own_mono (own_abv op.out HAv.out) HBR.out.2.2.2.2.2⟩)
                      have B5 := hid (show Below wr.heap.size wr X3 from hX3 ▸ hX2 ▸ hX1 ▸ (((B3.out.trans (OW.out.mono (by have := HB.out; have := B3.out.size; omega))).setCell (p := ⟨R, 3, none⟩) HRr.out _).setCell (p := ⟨R, 4, none⟩) HRr.out _).setCell (p := ⟨R, 5, none⟩) HRr.out _)
                      refine wpAnyL_ready (rs := [12]) (by kernel_rfl) (by simp) ?_
                      refine (AllReadyL.cons rfl (fun KK hK => ?_) AllReadyL.nil)
                      simp only [List.getElem_toArray, List.getElem_cons_succ, List.getElem_cons_zero]
                      go_simp
                      refine hK.out _ _ (SL.past3 trivial (by kernel_rfl) (by kernel_rfl) (by kernel_rfl)) (fun hHeld => ?_)
                      clear hK KK hHeld
                      try simp only [pt, List.set]
                      refine takeL 13 97 (.pointer (some ⟨R, 4, none⟩)) rfl rfl (by kernel_rfl) (by kernel_rfl) (by kernel_rfl) (by rfl) (fun _ _ _ h => h) (by kernel_rfl) (fun X hX => by clear hX; first | rfl | go_simp) (SL.past3 trivial (by kernel_rfl) (by kernel_rfl) (by kernel_rfl)) ?_
                      simp only [pt, List.set]
                      refine wpAnyL_ready (rs := [14]) (by kernel_rfl) (by simp) ?_
                      refine (AllReadyL.cons rfl (fun KK hK => ?_) AllReadyL.nil)
                      simp only [List.getElem_toArray, List.getElem_cons_succ, List.getElem_cons_zero]
                      go_simp
                      refine hK.out _ _ (SL.past3 trivial (by kernel_rfl) (by kernel_rfl) (by kernel_rfl)) (fun hHeld => ?_)
                      clear hK KK hHeld
                      try simp only [pt, List.set]
                      refine takeL 15 98 (.pointer (some ⟨R, 5, none⟩)) rfl rfl (by kernel_rfl) (by kernel_rfl) (by kernel_rfl) (by rfl) (fun _ _ _ h => h) (by kernel_rfl) (fun X hX => by clear hX; first | rfl | go_simp) (SL.past3 trivial (by kernel_rfl) (by kernel_rfl) (by kernel_rfl)) ?_
                      simp only [pt, List.set]
                      refine wpAnyL_ready (rs := [16]) (by kernel_rfl) (by simp) ?_
                      refine (AllReadyL.cons rfl (fun KK hK => ?_) AllReadyL.nil)
                      simp only [List.getElem_toArray, List.getElem_cons_succ, List.getElem_cons_zero]
                      go_simp
                      refine hK.out _ _ (SL.past3 trivial (by kernel_rfl) (by kernel_rfl) (by kernel_rfl)) (fun hHeld => ?_)
                      clear hK KK hHeld
                      try simp only [pt, List.set]
                      refine wpAnyL_done (by kernel_rfl) ?_ _
                      go_wp2_with fail
                      go_meet
                      exact ⟨A6, c6, A7, c7, A8, c8, K5, HY5, B5⟩
            · skip
              simp only [List.getElem_toArray, List.getElem_cons_succ, List.getElem_cons_zero]
              obtain ⟨L7, V, hL7, hV, KV, bV⟩ := HS.out.one [] 124
              have op := hid (show V.ownsRow B 124 2 (.slice (some ⟨L7, 0, none⟩) 0 0) 0 [] from by rw [← hV, ← hL7]; exact World.ownsRow_lit (base := B) (e := 124) (size := 2) _ #[] 0 (Nat.le_trans hUB.out OW.out.size) (by unfold maxLen; omega) (by rw [Nat.zero_mul]; rfl))
              replace HS := hid (KV.out.sub (l' := [(R, enC y, 62), (Q, [txt x.n, .int .i64 x.g.w, .int .i64 x.g.d, .int .i64 x.g.s, .slice A0 x.rm.length c0, .slice A1 x.wk.length c1, .slice A2 x.ps.length c2, .slice A3 k c3, .slice none 0 0, .slice none 0 0, .slice none 0 0, .int .i64 x.w0, .int .i64 x.w1, .int .i64 x.w2, .int .i64 x.w3], 34), (D, [.string ⟨#[]⟩, .int .i64 0, .int .i64 0, .int .i64 0, .slice none 0 0, .slice none 0 0, .slice none 0 0, .slice none 0 0, .slice none 0 0, .slice none 0 0, .slice none 0 0, .int .i64 0, .int .i64 0, .int .i64 0, .int .i64 0], 34), (G, pbc x, 34)]) (by simp))
              replace OW := hid (OW.out.trans (bV.mono (Nat.le_trans hUB.out OW.out.size)))
              go_simp
              clear KV bV
              refine hK.out _ _ (SL.one3 trivial HS.out) (fun hHeld => ?_)
              clear hK KK hHeld
              try simp only [pt, List.set]
              clear hV hL7
              refine wpAnyL_ready (rs := [2, 3]) (by kernel_rfl) (by simp) ?_
              refine (AllReadyL.cons rfl (fun KK hK => ?_) (AllReadyL.cons rfl (fun KK hK => ?_) AllReadyL.nil))
              · skip
                simp only [List.getElem_toArray, List.getElem_cons_succ, List.getElem_cons_zero]
                go_simp
                refine (HCy.out _ HS.out.2).mono ?_
                rintro e Y ⟨A6, n6, c6, rfl, ⟨rfl, ho⟩, bz⟩
                replace op := hid (own_below op.out bz)
                have oi := hid (own_mono ho (show B ≤ _ from Nat.le_trans hUB.out OW.out.size))
                replace HS := hid (HS.out.next bz)
                replace OW := hid (OW.out.trans (bz.mono (Nat.le_trans hUB.out OW.out.size)))
                clear ho bz
                refine hK.out _ _ (SL.one3 trivial HS.out) (fun hHeld => ?_)
                clear hK KK hHeld
                try simp only [pt, List.set]
                refine takeL 11 96 (.pointer (some ⟨R, 3, none⟩)) rfl rfl (by kernel_rfl) (by kernel_rfl) (by kernel_rfl) (by rfl) (fun _ _ _ h => h) (by kernel_rfl) (fun X hX => by clear hX; first | rfl | go_simp) (SL.one3 trivial HS.out) ?_
                simp only [pt, List.set]
                refine wpAnyL_ready (rs := [3]) (by kernel_rfl) (by simp) ?_
                refine (AllReadyL.cons rfl (fun KK hK => ?_) AllReadyL.nil)
                · skip
                  simp only [List.getElem_toArray, List.getElem_cons_succ, List.getElem_cons_zero]
                  obtain ⟨L3, V, hL3, hV, KV, bV⟩ := HS.out.one [] 122
                  replace oi := hid (own_below oi.out bV)
                  replace op := hid (own_below op.out bV)
                  have ot := hid (show V.ownsRow B 122 5 (.slice (some ⟨L3, 0, none⟩) 0 0) 0 [] from by rw [← hV, ← hL3]; exact World.ownsRow_lit (base := B) (e := 122) (size := 5) _ #[] 0 (Nat.le_trans hUB.out OW.out.size) (by unfold maxLen; omega) (by rw [Nat.zero_mul]; rfl))
                  replace HS := hid (KV.out.sub (l' := [(R, enC y, 62), (Q, [txt x.n, .int .i64 x.g.w, .int .i64 x.g.d, .int .i64 x.g.s, .slice A0 x.rm.length c0, .slice A1 x.wk.length c1, .slice A2 x.ps.length c2, .slice A3 k c3, .slice none 0 0, .slice none 0 0, .slice none 0 0, .int .i64 x.w0, .int .i64 x.w1, .int .i64 x.w2, .int .i64 x.w3], 34), (D, [.string ⟨#[]⟩, .int .i64 0, .int .i64 0, .int .i64 0, .slice none 0 0, .slice none 0 0, .slice none 0 0, .slice none 0 0, .slice none 0 0, .slice none 0 0, .slice none 0 0, .int .i64 0, .int .i64 0, .int .i64 0, .int .i64 0], 34), (G, pbc x, 34)]) (by simp))
                  replace OW := hid (OW.out.trans (bV.mono (Nat.le_trans hUB.out OW.out.size)))
                  go_simp
                  clear KV bV
                  refine hK.out _ _ (SL.one3 trivial HS.out) (fun hHeld => ?_)
                  clear hK KK hHeld
                  try simp only [pt, List.set]
                  clear hV hL3
                  refine wpAnyL_ready (rs := [6]) (by kernel_rfl) (by simp) ?_
                  refine (AllReadyL.cons rfl (fun KK hK => ?_) AllReadyL.nil)
                  · skip
                    refine step_append_srcN rfl (.tmp 88) (.tmp 90) 59 59 rfl B 122 it (.agg #[.int .u32 0, .int .u8 0, .int .i64 0, .int .i64 0, .int .i64 0]) 5 32 Tryz.underlying59 hit hzt0 hzt1 hzt2 rfl _ _ _ (by rfl) ot.out _ _ _ (by rfl) (HSt.out _ HS.out.2) t1 t2 (Nat.le_trans hUB.out OW.out.size) ?_
                    intro v6 w5 hown hgrow
                    have bC := (Below.refl B _).grown hgrow (Nat.le_trans hUB.out OW.out.size) (fun k hk => (ot.out.lt k hk).1)
                    replace oi := hid (own_grown17 oi.out ot.out (by decide) hgrow)
                    replace op := hid (own_grown17 op.out ot.out (by decide) hgrow)
                    rw [Nat.zero_add] at hown
                    replace ot := hid hown
                    replace HS := hid (HS.out.grown17 bC HBR.out.1 (by simp only [List.mem_cons, List.not_mem_nil, or_false]; have := HBR.out; rintro p (rfl | rfl | rfl | rfl) <;> (simp only; omega)))
                    replace OW := hid (OW.out.trans bC)
                    clear hown hgrow bC
                    refine hK.out _ _ (SL.one3 trivial HS.out) (fun hHeld => ?_)
                    clear hK KK hHeld
                    (try simp only [Act.put]); (try simp only [List.setIfInBounds_toArray])
                    refine wpAnyL_ready (rs := [10]) (by kernel_rfl) (by simp) ?_
                    refine (AllReadyL.cons rfl (fun KK hK => ?_) AllReadyL.nil)
                    · skip
                      refine step_append_srcN rfl (.tmp 92) (.tmp 94) 60 60 rfl B 124 ip (.agg #[.int .i64 0, .int .i64 0]) 2 16 Tryz.underlying60 hip hzp0 hzp1 hzp2 rfl _ _ _ (by rfl) op.out _ _ _ (by rfl) (HSl.out _ HS.out.2) l1 l2 (Nat.le_trans hUB.out OW.out.size) ?_
                      intro v10 w5 hown hgrow
                      have bC := (Below.refl B _).grown hgrow (Nat.le_trans hUB.out OW.out.size) (fun k hk => (op.out.lt k hk).1)
                      replace oi := hid (own_grown17 oi.out op.out (by decide) hgrow)
                      replace ot := hid (own_grown17 ot.out op.out (by decide) hgrow)
                      rw [Nat.zero_add] at hown
                      replace op := hid hown
                      replace HS := hid (HS.out.grown17 bC HBR.out.1 (by simp only [List.mem_cons, List.not_mem_nil, or_false]; have := HBR.out; rintro p (rfl | rfl | rfl | rfl) <;> (simp only; omega)))
                      replace OW := hid (OW.out.trans bC)
                      clear hown hgrow bC
                      refine hK.out _ _ (SL.one3 trivial HS.out) (fun hHeld => ?_)
                      clear hK KK hHeld
                      (try simp only [Act.put]); (try simp only [List.setIfInBounds_toArray])
                      have hv6 : ∃ A7 c7, v6 = .slice A7 y.x.t.length c7 := by
                       rcases ot.out.2 with ⟨e, h0⟩ | ⟨g, cap, cur, e, _⟩
                       · exact ⟨none, 0, by rw [e, h0]⟩
                       · exact ⟨_, _, e⟩
                      have hv10 : ∃ A8 c8, v10 = .slice A8 y.x.l.length c8 := by
                       rcases op.out.2 with ⟨e, h0⟩ | ⟨g, cap, cur, e, _⟩
                       · exact ⟨none, 0, by rw [e, h0]⟩
                       · exact ⟨_, _, e⟩
                      obtain ⟨A7, c7, rfl⟩ := hv6
                      obtain ⟨A8, c8, rfl⟩ := hv10
                      have gz := (HS.out.at_ (b := R) (cs := enC y) (t := 62) (by simp)).free
                      have f33 := gz 3
                      have z33 := HS.out.cell (b := R) (cs := enC y) (t := 62) (by simp) (k := 3) rfl
                      have f34 := gz 4
                      have z34 := HS.out.cell (b := R) (cs := enC y) (t := 62) (by simp) (k := 4) rfl
                      have f35 := gz 5
                      have z35 := HS.out.cell (b := R) (cs := enC y) (t := 62) (by simp) (k := 5) rfl
                      clear gz
                      obtain ⟨X1, hX1⟩ : ∃ X, w5.setCell ⟨R, 3, none⟩ (.slice A6 y.x.p.length c6) = X := ⟨_, rfl⟩
                      obtain ⟨X2, hX2⟩ : ∃ X, X1.setCell ⟨R, 4, none⟩ (.slice A7 y.x.t.length c7) = X := ⟨_, rfl⟩
                      obtain ⟨X3, hX3⟩ : ∃ X, X2.setCell ⟨R, 5, none⟩ (.slice A8 y.x.l.length c8) = X := ⟨_, rfl⟩
                      have K1 := hid (show Mem w X1 [(R, [txt y.x.n, .int .i64 y.x.s, .int .u16 (y.x.g : Int), .slice A6 y.x.p.length c6, .slice y.r.b y.x.t.length y.r.bc, .slice y.r.c y.x.l.length y.r.cc, .int .i64 y.x.o], 62), (Q, [txt x.n, .int .i64 x.g.w, .int .i64 x.g.d, .int .i64 x.g.s, .slice A0 x.rm.length c0, .slice A1 x.wk.length c1, .slice A2 x.ps.length c2, .slice A3 k c3, .slice none 0 0, .slice none 0 0, .slice none 0 0, .int .i64 x.w0, .int .i64 x.w1, .int .i64 x.w2, .int .i64 x.w3], 34), (D, [.string ⟨#[]⟩, .int .i64 0, .int .i64 0, .int .i64 0, .slice none 0 0, .slice none 0 0, .slice none 0 0, .slice none 0 0, .slice none 0 0, .slice none 0 0, .slice none 0 0, .int .i64 0, .int .i64 0, .int .i64 0, .int .i64 0], 34), (G, pbc x, 34)] from hX1 ▸ HS.out.set HRw.out.1 HRN.out 3 _)
                      have K2 := hid (show Mem w X2 [(R, [txt y.x.n, .int .i64 y.x.s, .int .u16 (y.x.g : Int), .slice A6 y.x.p.length c6, .slice A7 y.x.t.length c7, .slice y.r.c y.x.l.length y.r.cc, .int .i64 y.x.o], 62), (Q, [txt x.n, .int .i64 x.g.w, .int .i64 x.g.d, .int .i64 x.g.s, .slice A0 x.rm.length c0, .slice A1 x.wk.length c1, .slice A2 x.ps.length c2, .slice A3 k c3, .slice none 0 0, .slice none 0 0, .slice none 0 0, .int .i64 x.w0, .int .i64 x.w1, .int .i64 x.w2, .int .i64 x.w3], 34), (D, [.string ⟨#[]⟩, .int .i64 0, .int .i64 0, .int .i64 0, .slice none 0 0, .slice none 0 0, .slice none 0 0, .slice none 0 0, .slice none 0 0, .slice none 0 0, .slice none 0 0, .int .i64 0, .int .i64 0, .int .i64 0, .int .i64 0], 34), (G, pbc x, 34)] from hX2 ▸ K1.out.set HRw.out.1 HRN.out 4 _)
                      have K5 := hid (show Mem w X3 [(R, enC ⟨y.x, ⟨A6, c6, A7, c7, A8, c8⟩⟩, 62), (Q, [txt x.n, .int .i64 x.g.w, .int .i64 x.g.d, .int .i64 x.g.s, .slice A0 x.rm.length c0, .slice A1 x.wk.length c1, .slice A2 x.ps.length c2, .slice A3 k c3, .slice none 0 0, .slice none 0 0, .slice none 0 0, .int .i64 x.w0, .int .i64 x.w1, .int .i64 x.w2, .int .i64 x.w3], 34), (D, [.string ⟨#[]⟩, .int .i64 0, .int .i64 0, .int .i64 0, .slice none 0 0, .slice none 0 0, .slice none 0 0, .slice none 0 0, .slice none 0 0, .slice none 0 0, .slice none 0 0, .int .i64 0, .int .i64 0, .int .i64 0, .int .i64 0], 34), (G, pbc x, 34)] from hX3 ▸ K2.out.set HRw.out.1 HRN.out 5 _)
                      have g4 := (K1.out.at_ (b := R) (cs := [txt y.x.n, .int .i64 y.x.s, .int .u16 (y.x.g : Int), .slice A6 y.x.p.length c6, .slice y.r.b y.x.t.length y.r.bc, .slice y.r.c y.x.l.length y.r.cc, .int .i64 y.x.o]) (t := 62) (by simp)).free 4
                      have y4 := K1.out.cell (b := R) (cs := [txt y.x.n, .int .i64 y.x.s, .int .u16 (y.x.g : Int), .slice A6 y.x.p.length c6, .slice y.r.b y.x.t.length y.r.bc, .slice y.r.c y.x.l.length y.r.cc, .int .i64 y.x.o]) (t := 62) (by simp) (k := 4) rfl
                      have g5 := (K2.out.at_ (b := R) (cs := [txt y.x.n, .int .i64 y.x.s, .int .u16 (y.x.g : Int), .slice A6 y.x.p.length c6, .slice A7 y.x.t.length c7, .slice y.r.c y.x.l.length y.r.cc, .int .i64 y.x.o]) (t := 62) (by simp)).free 5
                      have y5 := K2.out.cell (b := R) (cs := [txt y.x.n, .int .i64 y.x.s, .int .u16 (y.x.g : Int), .slice A6 y.x.p.length c6, .slice A7 y.x.t.length c7, .slice y.r.c y.x.l.length y.r.cc, .int .i64 y.x.o]) (t := 62) (by simp) (k := 5) rfl
                      have HAv := hid (show Abv B w5 X3 from hX3 ▸ hX2 ▸ hX1 ▸ ((Abv.set _ _ _ HBR.out.2.1).trans (Abv.set _ _ _ HBR.out.2.1)).trans (Abv.set _ _ _ HBR.out.2.1))
                      have HY5 := hid (show ClE C ⟨y.x, ⟨A6, c6, A7, c7, A8, c8⟩⟩ X3 from ⟨own_mono (own_abv oi.out HAv.out) HBR.out.2.2.2.2.2, own_mono (own_abv ot.out HAv.out) HBR.out.2.2.2.2.2, own_mono (own_abv op.out HAv.out) HBR.out.2.2.2.2.2⟩)
                      have B5 := hid (show Below wr.heap.size wr X3 from hX3 ▸ hX2 ▸ hX1 ▸ (((B3.out.trans (OW.out.mono (by have := HB.out; have := B3.out.size; omega))).setCell (p := ⟨R, 3, none⟩) HRr.out _).setCell (p := ⟨R, 4, none⟩) HRr.out _).setCell (p := ⟨R, 5, none⟩) HRr.out _)
                      refine wpAnyL_ready (rs := [12]) (by kernel_rfl) (by simp) ?_
                      refine (AllReadyL.cons rfl (fun KK hK => ?_) AllReadyL.nil)
                      simp only [List.getElem_toArray, List.getElem_cons_succ, List.getElem_cons_zero]
                      go_simp
                      refine hK.out _ _ (SL.past3 trivial (by kernel_rfl) (by kernel_rfl) (by kernel_rfl)) (fun hHeld => ?_)
                      clear hK KK hHeld
                      try simp only [pt, List.set]
                      refine takeL 13 97 (.pointer (some ⟨R, 4, none⟩)) rfl rfl (by kernel_rfl) (by kernel_rfl) (by kernel_rfl) (by rfl) (fun _ _ _ h => h) (by kernel_rfl) (fun X hX => by clear hX; first | rfl | go_simp) (SL.past3 trivial (by kernel_rfl) (by kernel_rfl) (by kernel_rfl)) ?_
                      simp only [pt, List.set]
                      refine wpAnyL_ready (rs := [14]) (by kernel_rfl) (by simp) ?_
                      refine (AllReadyL.cons rfl (fun KK hK => ?_) AllReadyL.nil)
                      simp only [List.getElem_toArray, List.getElem_cons_succ, List.getElem_cons_zero]
                      go_simp
                      refine hK.out _ _ (SL.past3 trivial (by kernel_rfl) (by kernel_rfl) (by kernel_rfl)) (fun hHeld => ?_)
                      clear hK KK hHeld
                      try simp only [pt, List.set]
                      refine takeL 15 98 (.pointer (some ⟨R, 5, none⟩)) rfl rfl (by kernel_rfl) (by kernel_rfl) (by kernel_rfl) (by rfl) (fun _ _ _ h => h) (by kernel_rfl) (fun X hX => by clear hX; first | rfl | go_simp) (SL.past3 trivial (by kernel_rfl) (by kernel_rfl) (by kernel_rfl)) ?_
                      simp only [pt, List.set]
                      refine wpAnyL_ready (rs := [16]) (by kernel_rfl) (by simp) ?_
                      refine (AllReadyL.cons rfl (fun KK hK => ?_) AllReadyL.nil)
                      simp only [List.getElem_toArray, List.getElem_cons_succ, List.getElem_cons_zero]
                      go_simp
                      refine hK.out _ _ (SL.past3 trivial (by kernel_rfl) (by kernel_rfl) (by kernel_rfl)) (fun hHeld => ?_)
                      clear hK KK hHeld
                      try simp only [pt, List.set]
                      refine wpAnyL_done (by kernel_rfl) ?_ _
                      go_wp2_with fail
                      go_meet
                      exact ⟨A6, c6, A7, c7, A8, c8, K5, HY5, B5⟩
              · skip
                simp only [List.getElem_toArray, List.getElem_cons_succ, List.getElem_cons_zero]
                obtain ⟨L3, V, hL3, hV, KV, bV⟩ := HS.out.one [] 122
                replace op := hid (own_below op.out bV)
                have ot := hid (show V.ownsRow B 122 5 (.slice (some ⟨L3, 0, none⟩) 0 0) 0 [] from by rw [← hV, ← hL3]; exact World.ownsRow_lit (base := B) (e := 122) (size := 5) _ #[] 0 (Nat.le_trans hUB.out OW.out.size) (by unfold maxLen; omega) (by rw [Nat.zero_mul]; rfl))
                replace HS := hid (KV.out.sub (l' := [(R, enC y, 62), (Q, [txt x.n, .int .i64 x.g.w, .int .i64 x.g.d, .int .i64 x.g.s, .slice A0 x.rm.length c0, .slice A1 x.wk.length c1, .slice A2 x.ps.length c2, .slice A3 k c3, .slice none 0 0, .slice none 0 0, .slice none 0 0, .int .i64 x.w0, .int .i64 x.w1, .int .i64 x.w2, .int .i64 x.w3], 34), (D, [.string ⟨#[]⟩, .int .i64 0, .int .i64 0, .int .i64 0, .slice none 0 0, .slice none 0 0, .slice none 0 0, .slice none 0 0, .slice none 0 0, .slice none 0 0, .slice none 0 0, .int .i64 0, .int .i64 0, .int .i64 0, .int .i64 0], 34), (G, pbc x, 34)]) (by simp))
                replace OW := hid (OW.out.trans (bV.mono (Nat.le_trans hUB.out OW.out.size)))
                go_simp
                clear KV bV
                refine hK.out _ _ (SL.one3 trivial HS.out) (fun hHeld => ?_)
                clear hK KK hHeld
                try simp only [pt, List.set]
                clear hV hL3
                refine wpAnyL_ready (rs := [2]) (by kernel_rfl) (by simp) ?_
                refine (AllReadyL.cons rfl (fun KK hK => ?_) AllReadyL.nil)
                · skip
                  simp only [List.getElem_toArray, List.getElem_cons_succ, List.getElem_cons_zero]
                  go_simp
                  refine (HCy.out _ HS.out.2).mono ?_
                  rintro e Y ⟨A6, n6, c6, rfl, ⟨rfl, ho⟩, bz⟩
                  replace ot := hid (own_below ot.out bz)
                  replace op := hid (own_below op.out bz)
                  have oi := hid (own_mono ho (show B ≤ _ from Nat.le_trans hUB.out OW.out.size))
                  replace HS := hid (HS.out.next bz)
                  replace OW := hid (OW.out.trans (bz.mono (Nat.le_trans hUB.out OW.out.size)))
                  clear ho bz
                  refine hK.out _ _ (SL.one3 trivial HS.out) (fun hHeld => ?_)
                  clear hK KK hHeld
                  try simp only [pt, List.set]
                  refine takeL 11 96 (.pointer (some ⟨R, 3, none⟩)) rfl rfl (by kernel_rfl) (by kernel_rfl) (by kernel_rfl) (by rfl) (fun _ _ _ h => h) (by kernel_rfl) (fun X hX => by clear hX; first | rfl | go_simp) (SL.one3 trivial HS.out) ?_
                  simp only [pt, List.set]
                  refine wpAnyL_ready (rs := [6]) (by kernel_rfl) (by simp) ?_
                  refine (AllReadyL.cons rfl (fun KK hK => ?_) AllReadyL.nil)
                  · skip
                    refine step_append_srcN rfl (.tmp 88) (.tmp 90) 59 59 rfl B 122 it (.agg #[.int .u32 0, .int .u8 0, .int .i64 0, .int .i64 0, .int .i64 0]) 5 32 Tryz.underlying59 hit hzt0 hzt1 hzt2 rfl _ _ _ (by rfl) ot.out _ _ _ (by rfl) (HSt.out _ HS.out.2) t1 t2 (Nat.le_trans hUB.out OW.out.size) ?_
                    intro v6 w5 hown hgrow
                    have bC := (Below.refl B _).grown hgrow (Nat.le_trans hUB.out OW.out.size) (fun k hk => (ot.out.lt k hk).1)
                    replace oi := hid (own_grown17 oi.out ot.out (by decide) hgrow)
                    replace op := hid (own_grown17 op.out ot.out (by decide) hgrow)
                    rw [Nat.zero_add] at hown
                    replace ot := hid hown
                    replace HS := hid (HS.out.grown17 bC HBR.out.1 (by simp only [List.mem_cons, List.not_mem_nil, or_false]; have := HBR.out; rintro p (rfl | rfl | rfl | rfl) <;> (simp only; omega)))
                    replace OW := hid (OW.out.trans bC)
                    clear hown hgrow bC
                    refine hK.out _ _ (SL.one3 trivial HS.out) (fun hHeld => ?_)
                    clear hK KK hHeld
                    (try simp only [Act.put]); (try simp only [List.setIfInBounds_toArray])
                    refine wpAnyL_ready (rs := [10]) (by kernel_rfl) (by simp) ?_
                    refine (AllReadyL.cons rfl (fun KK hK => ?_) AllReadyL.nil)
                    · skip
                      refine step_append_srcN rfl (.tmp 92) (.tmp 94) 60 60 rfl B 124 ip (.agg #[.int .i64 0, .int .i64 0]) 2 16 Tryz.underlying60 hip hzp0 hzp1 hzp2 rfl _ _ _ (by rfl) op.out _ _ _ (by rfl) (HSl.out _ HS.out.2) l1 l2 (Nat.le_trans hUB.out OW.out.size) ?_
                      intro v10 w5 hown hgrow
                      have bC := (Below.refl B _).grown hgrow (Nat.le_trans hUB.out OW.out.size) (fun k hk => (op.out.lt k hk).1)
                      replace oi := hid (own_grown17 oi.out op.out (by decide) hgrow)
                      replace ot := hid (own_grown17 ot.out op.out (by decide) hgrow)
                      rw [Nat.zero_add] at hown
                      replace op := hid hown
                      replace HS := hid (HS.out.grown17 bC HBR.out.1 (by simp only [List.mem_cons, List.not_mem_nil, or_false]; have := HBR.out; rintro p (rfl | rfl | rfl | rfl) <;> (simp only; omega)))
                      replace OW := hid (OW.out.trans bC)
                      clear hown hgrow bC
                      refine hK.out _ _ (SL.one3 trivial HS.out) (fun hHeld => ?_)
                      clear hK KK hHeld
                      (try simp only [Act.put]); (try simp only [List.setIfInBounds_toArray])
                      have hv6 : ∃ A7 c7, v6 = .slice A7 y.x.t.length c7 := by
                       rcases ot.out.2 with ⟨e, h0⟩ | ⟨g, cap, cur, e, _⟩
                       · exact ⟨none, 0, by rw [e, h0]⟩
                       · exact ⟨_, _, e⟩
                      have hv10 : ∃ A8 c8, v10 = .slice A8 y.x.l.length c8 := by
                       rcases op.out.2 with ⟨e, h0⟩ | ⟨g, cap, cur, e, _⟩
                       · exact ⟨none, 0, by rw [e, h0]⟩
                       · exact ⟨_, _, e⟩
                      obtain ⟨A7, c7, rfl⟩ := hv6
                      obtain ⟨A8, c8, rfl⟩ := hv10
                      have gz := (HS.out.at_ (b := R) (cs := enC y) (t := 62) (by simp)).free
                      have f33 := gz 3
                      have z33 := HS.out.cell (b := R) (cs := enC y) (t := 62) (by simp) (k := 3) rfl
                      have f34 := gz 4
                      have z34 := HS.out.cell (b := R) (cs := enC y) (t := 62) (by simp) (k := 4) rfl
                      have f35 := gz 5
                      have z35 := HS.out.cell (b := R) (cs := enC y) (t := 62) (by simp) (k := 5) rfl
                      clear gz
                      obtain ⟨X1, hX1⟩ : ∃ X, w5.setCell ⟨R, 3, none⟩ (.slice A6 y.x.p.length c6) = X := ⟨_, rfl⟩
                      obtain ⟨X2, hX2⟩ : ∃ X, X1.setCell ⟨R, 4, none⟩ (.slice A7 y.x.t.length c7) = X := ⟨_, rfl⟩
                      obtain ⟨X3, hX3⟩ : ∃ X, X2.setCell ⟨R, 5, none⟩ (.slice A8 y.x.l.length c8) = X := ⟨_, rfl⟩
                      have K1 := hid (show Mem w X1 [(R, [txt y.x.n, .int .i64 y.x.s, .int .u16 (y.x.g : Int), .slice A6 y.x.p.length c6, .slice y.r.b y.x.t.length y.r.bc, .slice y.r.c y.x.l.length y.r.cc, .int .i64 y.x.o], 62), (Q, [txt x.n, .int .i64 x.g.w, .int .i64 x.g.d, .int .i64 x.g.s, .slice A0 x.rm.length c0, .slice A1 x.wk.length c1, .slice A2 x.ps.length c2, .slice A3 k c3, .slice none 0 0, .slice none 0 0, .slice none 0 0, .int .i64 x.w0, .int .i64 x.w1, .int .i64 x.w2, .int .i64 x.w3], 34), (D, [.string ⟨#[]⟩, .int .i64 0, .int .i64 0, .int .i64 0, .slice none 0 0, .slice none 0 0, .slice none 0 0, .slice none 0 0, .slice none 0 0, .slice none 0 0, .slice none 0 0, .int .i64 0, .int .i64 0, .int .i64 0, .int .i64 0], 34), (G, pbc x, 34)] from hX1 ▸ HS.out.set HRw.out.1 HRN.out 3 _)
                      have K2 := hid (show Mem w X2 [(R, [txt y.x.n, .int .i64 y.x.s, .int .u16 (y.x.g : Int), .slice A6 y.x.p.length c6, .slice A7 y.x.t.length c7, .slice y.r.c y.x.l.length y.r.cc, .int .i64 y.x.o], 62), (Q, [txt x.n, .int .i64 x.g.w, .int .i64 x.g.d, .int .i64 x.g.s, .slice A0 x.rm.length c0, .slice A1 x.wk.length c1, .slice A2 x.ps.length c2, .slice A3 k c3, .slice none 0 0, .slice none 0 0, .slice none 0 0, .int .i64 x.w0, .int .i64 x.w1, .int .i64 x.w2, .int .i64 x.w3], 34), (D, [.string ⟨#[]⟩, .int .i64 0, .int .i64 0, .int .i64 0, .slice none 0 0, .slice none 0 0, .slice none 0 0, .slice none 0 0, .slice none 0 0, .slice none 0 0, .slice none 0 0, .int .i64 0, .int .i64 0, .int .i64 0, .int .i64 0], 34), (G, pbc x, 34)] from hX2 ▸ K1.out.set HRw.out.1 HRN.out 4 _)
                      have K5 := hid (show Mem w X3 [(R, enC ⟨y.x, ⟨A6, c6, A7, c7, A8, c8⟩⟩, 62), (Q, [txt x.n, .int .i64 x.g.w, .int .i64 x.g.d, .int .i64 x.g.s, .slice A0 x.rm.length c0, .slice A1 x.wk.length c1, .slice A2 x.ps.length c2, .slice A3 k c3, .slice none 0 0, .slice none 0 0, .slice none 0 0, .int .i64 x.w0, .int .i64 x.w1, .int .i64 x.w2, .int .i64 x.w3], 34), (D, [.string ⟨#[]⟩, .int .i64 0, .int .i64 0, .int .i64 0, .slice none 0 0, .slice none 0 0, .slice none 0 0, .slice none 0 0, .slice none 0 0, .slice none 0 0, .slice none 0 0, .int .i64 0, .int .i64 0, .int .i64 0, .int .i64 0], 34), (G, pbc x, 34)] from hX3 ▸ K2.out.set HRw.out.1 HRN.out 5 _)
                      have g4 := (K1.out.at_ (b := R) (cs := [txt y.x.n, .int .i64 y.x.s, .int .u16 (y.x.g : Int), .slice A6 y.x.p.length c6, .slice y.r.b y.x.t.length y.r.bc, .slice y.r.c y.x.l.length y.r.cc, .int .i64 y.x.o]) (t := 62) (by simp)).free 4
                      have y4 := K1.out.cell (b := R) (cs := [txt y.x.n, .int .i64 y.x.s, .int .u16 (y.x.g : Int), .slice A6 y.x.p.length c6, .slice y.r.b y.x.t.length y.r.bc, .slice y.r.c y.x.l.length y.r.cc, .int .i64 y.x.o]) (t := 62) (by simp) (k := 4) rfl
                      have g5 := (K2.out.at_ (b := R) (cs := [txt y.x.n, .int .i64 y.x.s, .int .u16 (y.x.g : Int), .slice A6 y.x.p.length c6, .slice A7 y.x.t.length c7, .slice y.r.c y.x.l.length y.r.cc, .int .i64 y.x.o]) (t := 62) (by simp)).free 5
                      have y5 := K2.out.cell (b := R) (cs := [txt y.x.n, .int .i64 y.x.s, .int .u16 (y.x.g : Int), .slice A6 y.x.p.length c6, .slice A7 y.x.t.length c7, .slice y.r.c y.x.l.length y.r.cc, .int .i64 y.x.o]) (t := 62) (by simp) (k := 5) rfl
                      have HAv := hid (show Abv B w5 X3 from hX3 ▸ hX2 ▸ hX1 ▸ ((Abv.set _ _ _ HBR.out.2.1).trans (Abv.set _ _ _ HBR.out.2.1)).trans (Abv.set _ _ _ HBR.out.2.1))
                      have HY5 := hid (show ClE C ⟨y.x, ⟨A6, c6, A7, c7, A8, c8⟩⟩ X3 from ⟨own_mono (own_abv oi.out HAv.out) HBR.out.2.2.2.2.2, own_mono (own_abv ot.out HAv.out) HBR.out.2.2.2.2.2, own_mono (own_abv op.out HAv.out) HBR.out.2.2.2.2.2⟩)
                      have B5 := hid (show Below wr.heap.size wr X3 from hX3 ▸ hX2 ▸ hX1 ▸ (((B3.out.trans (OW.out.mono (by have := HB.out; have := B3.out.size; omega))).setCell (p := ⟨R, 3, none⟩) HRr.out _).setCell (p := ⟨R, 4, none⟩) HRr.out _).setCell (p := ⟨R, 5, none⟩) HRr.out _)
                      refine wpAnyL_ready (rs := [12]) (by kernel_rfl) (by simp) ?_
                      refine (AllReadyL.cons rfl (fun KK hK => ?_) AllReadyL.nil)
                      simp only [List.getElem_toArray, List.getElem_cons_succ, List.getElem_cons_zero]
                      go_simp
                      refine hK.out _ _ (SL.past3 trivial (by kernel_rfl) (by kernel_rfl) (by kernel_rfl)) (fun hHeld => ?_)
                      clear hK KK hHeld
                      try simp only [pt, List.set]
                      refine takeL 13 97 (.pointer (some ⟨R, 4, none⟩)) rfl rfl (by kernel_rfl) (by kernel_rfl) (by kernel_rfl) (by rfl) (fun _ _ _ h => h) (by kernel_rfl) (fun X hX => by clear hX; first | rfl | go_simp) (SL.past3 trivial (by kernel_rfl) (by kernel_rfl) (by kernel_rfl)) ?_
                      simp only [pt, List.set]
                      refine wpAnyL_ready (rs := [14]) (by kernel_rfl) (by simp) ?_
                      refine (AllReadyL.cons rfl (fun KK hK => ?_) AllReadyL.nil)
                      simp only [List.getElem_toArray, List.getElem_cons_succ, List.getElem_cons_zero]
                      go_simp
                      refine hK.out _ _ (SL.past3 trivial (by kernel_rfl) (by kernel_rfl) (by kernel_rfl)) (fun hHeld => ?_)
                      clear hK KK hHeld
                      try simp only [pt, List.set]
                      refine takeL 15 98 (.pointer (some ⟨R, 5, none⟩)) rfl rfl (by kernel_rfl) (by kernel_rfl) (by kernel_rfl) (by rfl) (fun _ _ _ h => h) (by kernel_rfl) (fun X hX => by clear hX; first | rfl | go_simp) (SL.past3 trivial (by kernel_rfl) (by kernel_rfl) (by kernel_rfl)) ?_
                      simp only [pt, List.set]
                      refine wpAnyL_ready (rs := [16]) (by kernel_rfl) (by simp) ?_
                      refine (AllReadyL.cons rfl (fun KK hK => ?_) AllReadyL.nil)
                      simp only [List.getElem_toArray, List.getElem_cons_succ, List.getElem_cons_zero]
                      go_simp
                      refine hK.out _ _ (SL.past3 trivial (by kernel_rfl) (by kernel_rfl) (by kernel_rfl)) (fun hHeld => ?_)
                      clear hK KK hHeld
                      try simp only [pt, List.set]
                      refine wpAnyL_done (by kernel_rfl) ?_ _
                      go_wp2_with fail
                      go_meet
                      exact ⟨A6, c6, A7, c7, A8, c8, K5, HY5, B5⟩
           case rest =>
            revert wc
            intro U3 hcut
            obtain ⟨A6, c6, A7, c7, A8, c8, K5, HY5, B5⟩ := hcut
            clear hU hR hU2 pG K3 d0 d1 d2 d3 d4 d5 d6 f20 z20 f21 z21 f22 z22 f23 z23 f24 z24 f25 z25 f26 z26
            have q5 := K5.out.cell (b := Q) (cs := [txt x.n, .int .i64 x.g.w, .int .i64 x.g.d, .int .i64 x.g.s, .slice A0 x.rm.length c0, .slice A1 x.wk.length c1, .slice A2 x.ps.length c2, .slice A3 k c3, .slice none 0 0, .slice none 0 0, .slice none 0 0, .int .i64 x.w0, .int .i64 x.w1, .int .i64 x.w2, .int .i64 x.w3]) (t := 34) (by simp) (k := 7) rfl
            have r50 := K5.out.cell (b := R) (cs := enC ⟨y.x, ⟨A6, c6, A7, c7, A8, c8⟩⟩) (t := 62) (by simp) (k := 0) rfl
            have r51 := K5.out.cell (b := R) (cs := enC ⟨y.x, ⟨A6, c6, A7, c7, A8, c8⟩⟩) (t := 62) (by simp) (k := 1) rfl
            have r52 := K5.out.cell (b := R) (cs := enC ⟨y.x, ⟨A6, c6, A7, c7, A8, c8⟩⟩) (t := 62) (by simp) (k := 2) rfl
            have r53 := K5.out.cell (b := R) (cs := enC ⟨y.x, ⟨A6, c6, A7, c7, A8, c8⟩⟩) (t := 62) (by simp) (k := 3) rfl
            have r54 := K5.out.cell (b := R) (cs := enC ⟨y.x, ⟨A6, c6, A7, c7, A8, c8⟩⟩) (t := 62) (by simp) (k := 4) rfl
            have r55 := K5.out.cell (b := R) (cs := enC ⟨y.x, ⟨A6, c6, A7, c7, A8, c8⟩⟩) (t := 62) (by simp) (k := 5) rfl
            have r56 := K5.out.cell (b := R) (cs := enC ⟨y.x, ⟨A6, c6, A7, c7, A8, c8⟩⟩) (t := 62) (by simp) (k := 6) rfl
            obtain ⟨zs, hzm, hzl, O, hzE⟩ := (RowQ_ok SO.out _).keep _ _ _ _ _ _ HQ.out (Abv.of B5.out)
            have O := hid O
            have HzE := hid hzE
            have hC5 := hid (show C ≤ U3.heap.size from Nat.le_trans hCwr.out B5.out.size)
            clear hzE HQ
            go_wp2_with (at_builtin; refine wpList_append_own _ rfl _ _ 27 rfl C 62 i0 (.agg #[.string ⟨#[]⟩, .int .i64 0, .int .u16 0, .slice none 0 0, .slice none 0 0, .slice none 0 0, .int .i64 0]) 7 112 Tryz.underlying27 hi0 hz0 hz1 hz2 rfl (by decide) _ _ _ rfl (O.out.alloc _) ⟨_, 0, none⟩ 1 1 (enC (⟨y.x, ⟨A6, c6, A7, c7, A8, c8⟩⟩)) rfl rfl (elit_get _ _ _) (one17_Class _) h63 hby (le_alloc hC5.out _) ?_; intro v1 w5 hown2 hgrow _; have bl := below_alloc U3 (.cells (enC (⟨y.x, ⟨A6, c6, A7, c7, A8, c8⟩⟩)).toArray 62); obtain ⟨A9, c9, rfl, hq9⟩ := RowQ.grown (f := fun z : ClA => z.x) SO.out (O.out.alloc _) hzm hzl (fun z hz => SO.out.keep _ _ _ _ (HzE.out z hz) (Abv.of bl)) (SO.out.keep _ _ _ _ HY5.out (Abv.of bl)) hown2 hgrow; have bC := (bl.mono hC5.out).trans ((Below.refl C _).grown hgrow (le_alloc hC5.out _) (fun k hk => (O.out.lt k hk).1)); have K6 := hid ((K5.out.sub (l' := [(Q, [txt x.n, .int .i64 x.g.w, .int .i64 x.g.d, .int .i64 x.g.s, .slice A0 x.rm.length c0, .slice A1 x.wk.length c1, .slice A2 x.ps.length c2, .slice A3 k c3, .slice none 0 0, .slice none 0 0, .slice none 0 0, .int .i64 x.w0, .int .i64 x.w1, .int .i64 x.w2, .int .i64 x.w3], 34), (D, [.string ⟨#[]⟩, .int .i64 0, .int .i64 0, .int .i64 0, .slice none 0 0, .slice none 0 0, .slice none 0 0, .slice none 0 0, .slice none 0 0, .slice none 0 0, .slice none 0 0, .int .i64 0, .int .i64 0, .int .i64 0, .int .i64 0], 34), (G, pbc x, 34)]) (by simp)).grown17 bC HGC.out.1 (by simp only [List.mem_cons, List.not_mem_nil, or_false]; have := HGC.out; rintro p (rfl | rfl | rfl) <;> (simp only; omega))); have fq := (K6.out.at_ (b := Q) (cs := [txt x.n, .int .i64 x.g.w, .int .i64 x.g.d, .int .i64 x.g.s, .slice A0 x.rm.length c0, .slice A1 x.wk.length c1, .slice A2 x.ps.length c2, .slice A3 k c3, .slice none 0 0, .slice none 0 0, .slice none 0 0, .int .i64 x.w0, .int .i64 x.w1, .int .i64 x.w2, .int .i64 x.w3]) (t := 34) (by simp)).free 7; have yq := K6.out.cell (b := Q) (cs := [txt x.n, .int .i64 x.g.w, .int .i64 x.g.d, .int .i64 x.g.s, .slice A0 x.rm.length c0, .slice A1 x.wk.length c1, .slice A2 x.ps.length c2, .slice A3 k c3, .slice none 0 0, .slice none 0 0, .slice none 0 0, .int .i64 x.w0, .int .i64 x.w1, .int .i64 x.w2, .int .i64 x.w3]) (t := 34) (by simp) (k := 7) rfl; obtain ⟨U6, hU6⟩ : ∃ X, w5.setCell ⟨Q, 7, none⟩ (.slice A9 (k + 1) c9) = X := ⟨_, rfl⟩; have K7 := hid (show Mem w U6 [(Q, [txt x.n, .int .i64 x.g.w, .int .i64 x.g.d, .int .i64 x.g.s, .slice A0 x.rm.length c0, .slice A1 x.wk.length c1, .slice A2 x.ps.length c2, .slice A9 (k + 1) c9, .slice none 0 0, .slice none 0 0, .slice none 0 0, .int .i64 x.w0, .int .i64 x.w1, .int .i64 x.w2, .int .i64 x.w3], 34), (D, [.string ⟨#[]⟩, .int .i64 0, .int .i64 0, .int .i64 0, .slice none 0 0, .slice none 0 0, .slice none 0 0, .slice none 0 0, .slice none 0 0, .slice none 0 0, .slice none 0 0, .int .i64 0, .int .i64 0, .int .i64 0, .int .i64 0], 34), (G, pbc x, 34)] from hU6 ▸ K6.out.set HGQ.out.2.2.1 HNE.out 7 _); have hab := AbT.set (b := w.heap.size) (C := w5.heap.size) w5 (K6.out.at_ (b := Q) (cs := [txt x.n, .int .i64 x.g.w, .int .i64 x.g.d, .int .i64 x.g.s, .slice A0 x.rm.length c0, .slice A1 x.wk.length c1, .slice A2 x.ps.length c2, .slice A3 k c3, .slice none 0 0, .slice none 0 0, .slice none 0 0, .int .i64 x.w0, .int .i64 x.w1, .int .i64 x.w2, .int .i64 x.w3]) (t := 34) (by simp)) 7 (.slice A9 (k + 1) c9); have HQ7 := hid (show RowQ enC 62 7 (fun z => z.x) ClE ((x.cl.take (k + 1)).map (fun z => z.x)) C A9 (k + 1) c9 U6 from by rw [Hds.out]; exact hU6 ▸ RowQ.abt (by decide) (ClE_t (by decide) (by decide) (by decide)) hq9 (hab.up HGC.out.1)); have hCw := HC.out; have HT7 := hid (show AbT 34 w.heap.size wl2.heap.size wl2 U6 from (HT.out.trans (AbT.of ((B5.out.mono (Nat.le_trans (Nat.le_of_eq hCw) hCwr.out)).trans (bC.mono (Nat.le_of_eq hCw))))).trans (hU6 ▸ hab.less (by have := bC.size; have := hC5.out; omega))); clear hown2 hgrow bl bC hq9 hab hCw)
            exact ⟨⟨k + 1, A9, c9, by go_num, by omega, K7, HQ7, HT7⟩, by simp [intOf]; omega⟩
         · obtain rfl : k = x.cl.length := by omega
           have aH := AH.out
           clear AH
           have b2 : ¬ (x.cl.length : Int) < x.cl.length := by omega
           rw [List.take_length] at HQ
           replace HF1 := hid (RowQ.abt (t := 34) (by decide) (OwE_t (by decide)) HF1.out HT.out)
           replace HF0 := hid (RowQ.abt (t := 34) (by decide) (OwE_t (by decide)) HF0.out HT.out)
           replace HF2 := hid (RowQ.abt (t := 34) (by decide) (OwE_t (by decide)) HF2.out HT.out)
           have HF3 := hid ((RowQ_ok SO.out _).low _ _ _ _ _ _ HQ.out HGC.out.1)
           clear HQ HT HC HGC hCwr SO
           have KQ3 := KM
           clear KM
           obtain ⟨wl3, hwl⟩ : ∃ X, X = wr := ⟨_, rfl⟩
           subst hwl
           have AH := hid aH
           clear aH
           go_wp2_with fail
           refine AH.out _ _ ?_
           exact r17_Copy_cs x HFt.out HZ.out w HI.out G D Q HGD.out HQx.out _ KQ3.out HF1.out HF0.out HF2.out HF3.out
end Go.Proofs.YtgmgccepmalahaaGreat
