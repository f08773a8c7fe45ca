/- What the proof of ProblemCopies stands on, part 28. -/
import Derived.Deep.DeepCutAuto
import Derived.Test.YtgmgccepmalahaaGreatCpAF
import Derived.Test.YtgmgccepmalahaaGreatCpAV
import Derived.Test.YtgmgccepmalahaaGreatCpAZ
import Derived.Test.YtgmgccepmalahaaGreatCpBA
namespace Go.Proofs.YtgmgccepmalahaaGreat
open Go.RowKit
open Whn (Gr Wh)
set_option linter.unusedVariables false
theorem few_of17 {q x : PbA} (hp : q.p = x.p) (h : PbFew x) : PbFew q := by
 have e0 := len_of_map17 (congrArg Pb.rm hp)
 have e1 : q.wk.length = x.wk.length := congrArg (fun z => (Pb.wk z).length) hp
 have e2 := len_of_map17 (congrArg Pb.ps hp)
 have e3 := len_of_map17 (congrArg Pb.cl hp)
 have e4 := len_of_map17 (congrArg Pb.cs hp)
 have e5 := len_of_map17 (congrArg Pb.st hp)
 have e6 := len_of_map17 (congrArg Pb.rl hp)
 obtain ⟨h0, h1, h2, h3, h4, h5, h6⟩ := h
 exact ⟨by omega, by omega, by omega, by omega, by omega, by omega, by omega⟩
theorem fits_of17 {x : PbA} (h : PbFew x) : PbFits x := by
 obtain ⟨h0, h1, h2, h3, h4, h5, h6⟩ := h
 exact ⟨by omega, by omega, by omega, by omega, by omega, by omega, by omega⟩
theorem nm_of17 {q x : PbA} (hp : q.p = x.p) (h : PbBig x) : ∀ z ∈ q.rm, (bs z.r.n).size ≤ 9223372036854775806 := fun z hz => by
 obtain ⟨y, hy, e⟩ := mem_same17 (congrArg Pb.rm hp) z hz
 have h1 := (h.rm y hy).1
 have hr : reachBytes ≤ 140737488355328 := by decide
 rw [e] at h1
 rw [bs_size]
 omega
theorem nm_at17 {q : PbA} {b : Nat} {X : World} (h : PbOwn b X q) : ∀ ad, q.r0 = some ad → Nm17 q ad 0 X := fun ad e j z _ hz => by
 have ho := h.rm
 rw [e] at ho
 have hc : (ecells enR q.rm)[j * 4]? = some (txt z.r.n) := (ecells_get (K := 4) (fun _ => rfl) q.rm j z hz 0 (by decide)).trans rfl
 obtain ⟨g, cur, rfl, _, hg, h2⟩ := own_block17 ho
 rw [add_zero17]
 simp [World.cell?, hg, h2 _ _ hc]
theorem Ob.pb15 {X : World} {B : Nat} {x : PbA} {t : TypeId} (h : Ob X B (pbc x) t) : X.cell? ⟨B, 0, none⟩ = some (txt x.n) ∧ X.cell? ⟨B, 1, none⟩ = some (.int .i64 x.g.w) ∧ X.cell? ⟨B, 2, none⟩ = some (.int .i64 x.g.d) ∧ X.cell? ⟨B, 3, none⟩ = some (.int .i64 x.g.s) ∧ X.cell? ⟨B, 4, none⟩ = some (.slice x.r0 x.rm.length x.c0) ∧ X.cell? ⟨B, 5, none⟩ = some (.slice x.r1 x.wk.length x.c1) ∧ X.cell? ⟨B, 6, none⟩ = some (.slice x.r2 x.ps.length x.c2) ∧ X.cell? ⟨B, 7, none⟩ = some (.slice x.r3 x.cl.length x.c3) ∧ X.cell? ⟨B, 8, none⟩ = some (.slice x.r4 x.cs.length x.c4) ∧ X.cell? ⟨B, 9, none⟩ = some (.slice x.r5 x.st.length x.c5) ∧ X.cell? ⟨B, 10, none⟩ = some (.slice x.r6 x.rl.length x.c6) ∧ X.cell? ⟨B, 11, none⟩ = some (.int .i64 x.w0) ∧ X.cell? ⟨B, 12, none⟩ = some (.int .i64 x.w1) ∧ X.cell? ⟨B, 13, none⟩ = some (.int .i64 x.w2) ∧ X.cell? ⟨B, 14, none⟩ = some (.int .i64 x.w3) :=
 ⟨h.cell (k := 0) rfl, h.cell (k := 1) rfl, h.cell (k := 2) rfl, h.cell (k := 3) rfl, h.cell (k := 4) rfl, h.cell (k := 5) rfl, h.cell (k := 6) rfl, h.cell (k := 7) rfl, h.cell (k := 8) rfl, h.cell (k := 9) rfl, h.cell (k := 10) rfl, h.cell (k := 11) rfl, h.cell (k := 12) rfl, h.cell (k := 13) rfl, h.cell (k := 14) rfl⟩
theorem store15 {w Y U : World} {D : Nat} {t : TypeId} {l : Obs} (KU : Mem w U ((D, [.string ⟨#[]⟩, .int .i64 0, .int .i64 0, .int .i64 0, .slice none 0 0, .slice none 0 0, .slice none 0 0, .slice none 0 0, .slice none 0 0, .slice none 0 0, .slice none 0 0, .int .i64 0, .int .i64 0, .int .i64 0, .int .i64 0], t) :: l)) (hD : w.heap.size ≤ D) (hn : ∀ p ∈ l, p.1 ≠ D) (hy : Y.heap.size ≤ D) (hb : Below Y.heap.size Y U) (v0 v1 v2 v3 v4 v5 v6 v7 v8 v9 v10 v11 v12 v13 v14 : Value) : Mem w (((((((((((((((U.setCell ⟨D, 0, none⟩ (v0)).setCell ⟨D, 1, none⟩ (v1)).setCell ⟨D, 2, none⟩ (v2)).setCell ⟨D, 3, none⟩ (v3)).setCell ⟨D, 4, none⟩ (v4)).setCell ⟨D, 5, none⟩ (v5)).setCell ⟨D, 6, none⟩ (v6)).setCell ⟨D, 7, none⟩ (v7)).setCell ⟨D, 8, none⟩ (v8)).setCell ⟨D, 9, none⟩ (v9)).setCell ⟨D, 10, none⟩ (v10)).setCell ⟨D, 11, none⟩ (v11)).setCell ⟨D, 12, none⟩ (v12)).setCell ⟨D, 13, none⟩ (v13)).setCell ⟨D, 14, none⟩ (v14)) ((D, [v0, v1, v2, v3, v4, v5, v6, v7, v8, v9, v10, v11, v12, v13, v14], t) :: l) ∧ Below Y.heap.size Y (((((((((((((((U.setCell ⟨D, 0, none⟩ (v0)).setCell ⟨D, 1, none⟩ (v1)).setCell ⟨D, 2, none⟩ (v2)).setCell ⟨D, 3, none⟩ (v3)).setCell ⟨D, 4, none⟩ (v4)).setCell ⟨D, 5, none⟩ (v5)).setCell ⟨D, 6, none⟩ (v6)).setCell ⟨D, 7, none⟩ (v7)).setCell ⟨D, 8, none⟩ (v8)).setCell ⟨D, 9, none⟩ (v9)).setCell ⟨D, 10, none⟩ (v10)).setCell ⟨D, 11, none⟩ (v11)).setCell ⟨D, 12, none⟩ (v12)).setCell ⟨D, 13, none⟩ (v13)).setCell ⟨D, 14, none⟩ (v14)) :=
 ⟨(((((((((((((((KU.set hD hn 0 (v0)).set hD hn 1 (v1)).set hD hn 2 (v2)).set hD hn 3 (v3)).set hD hn 4 (v4)).set hD hn 5 (v5)).set hD hn 6 (v6)).set hD hn 7 (v7)).set hD hn 8 (v8)).set hD hn 9 (v9)).set hD hn 10 (v10)).set hD hn 11 (v11)).set hD hn 12 (v12)).set hD hn 13 (v13)).set hD hn 14 (v14)), (((((((((((((((hb.setCell (p := ⟨D, 0, none⟩) hy (v0)).setCell (p := ⟨D, 1, none⟩) hy (v1)).setCell (p := ⟨D, 2, none⟩) hy (v2)).setCell (p := ⟨D, 3, none⟩) hy (v3)).setCell (p := ⟨D, 4, none⟩) hy (v4)).setCell (p := ⟨D, 5, none⟩) hy (v5)).setCell (p := ⟨D, 6, none⟩) hy (v6)).setCell (p := ⟨D, 7, none⟩) hy (v7)).setCell (p := ⟨D, 8, none⟩) hy (v8)).setCell (p := ⟨D, 9, none⟩) hy (v9)).setCell (p := ⟨D, 10, none⟩) hy (v10)).setCell (p := ⟨D, 11, none⟩) hy (v11)).setCell (p := ⟨D, 12, none⟩) hy (v12)).setCell (p := ⟨D, 13, none⟩) hy (v13)).setCell (p := ⟨D, 14, none⟩) hy (v14))⟩
set_option maxRecDepth 20000 in
theorem load15 {X : World} {B : Nat} {x : PbA} (h : Ob X B (pbc x) 34) (f : Operand → Value) (o : Oper) (k : Nat) (ho : o.op = .load 34 (.tmp k)) (hf : f (.tmp k) = .pointer (some ⟨B, 0, none⟩)) : (execOp f o).run Tryz.prog X = .ok (.value (pbv x)) X := by
 obtain ⟨p0, p1, p2, p3, p4, p5, p6, p7, p8, p9, p10, p11, p12, p13, p14⟩ := h.pb15
 clear h
 unfold execOp
 rw [ho]
 simp only [hf]
 go_simp
set_option maxRecDepth 40000 in
set_option maxHeartbeats 32000000 in
theorem law17_5 (x y q q0 : PbA) (hx : PbBig x) (w : World) (h1 : PbIn w x) (h2 : PbIn w y) (hf : PbFew x) (hq : q.p = x.p) (hq0 : q0.p = x.p) (G F D C : Nat) (Y2 R Y3 R2 : World) (hKR : Mem w R [(D, pbc q0, 34), (F, pbc y, 34), (G, pbc x, 34)]) (hi0 : PbIn Y2 q0) (hB1 : Below Y2.heap.size Y2 R) (hB2 : Below R.heap.size R Y3) (hB3 : Below Y3.heap.size Y3 R2) (hKR2 : Mem w R2 [(C, pbc q, 34), (D, pbc q0, 34), (F, pbc y, 34), (G, pbc x, 34)]) (ho : PbOwn R.heap.size Y3 q) (hi : PbIn Y3 q) (hC : Y3.heap.size = C) {u7 u8 u9 u10 u11 u12 u13 u14 u15 u16 u17 u18 u19 u20 u21 u22 u23 u24 u25 u26 u27 u28 u29 u30 u31 u32 u33 u34 u35 u36 u37 u38 u39 u40 u41 u42 u43 u44 u45 u46 u47 u48 u49 u50 u51 u52 u53 u54 u55 u56 u57 u58 u59 u60 u61 u62 u63 u64 u65 u66 u67 u68 u69 u70 u71 u72 u73 u74 u75 u76 u77 u78 u79 u80 u81 u82 u83 u84 u85 u86 u87 u88 u89 u90 u91 u92 u93 u94 u95 u96 u97 u98 u99 u100 u101 u102 u103 u104 u105 u106 u107 u108 u109 u110 u111 u112 u113 u114 u115 u116 u117 u118 u119 u120 u121 u122 u123 u124 u125 u126 u127 u128 u129 u130 u131 u132 u133 u134 u135 u136 u137 u138 u139 u140 u141 u142 u143 u144 u145 u146 u147 u148 u149 u150 u151 u152 u153 u154 u155 u156 u157 u158 u159 u160 u161 u162 u163 u164 u165 u166 u167 u168 u169 u170 u171 u172 u173 u174 u175 u176 u177 u178 u179 u180 u181 u182 u183 u184 u185 u186 u187 u188 u189 u190 u191 u192 u193 u194 u195 u196 u197 u198 u199 u200 u201 u202 u203 u204 u205 u206 u207 u208 u209 u210 u211 u212 u213 u214 u215 u216 u217 u218 u219 u220 u221 u222 u223 u224 u225 u226 u227 u228 u229 u230 u231 u232 u233 u234 u235 : Value} :
    Code.wp Tryz.prog (rest17 4 (body17 Tryz.f5)) (bodyPost Tryz.prog Tryz.f5 (Did (.bool true) w)) ⟨#[pbv x, pbv y, .pointer (some ⟨G, 0, none⟩), .pointer (some ⟨F, 0, none⟩), .bool false, .pointer (some ⟨D, 0, none⟩), .pointer (some ⟨C, 0, none⟩), u7, u8, u9, u10, u11, u12, u13, u14, u15, u16, u17, u18, u19, u20, u21, u22, u23, u24, u25, u26, u27, u28, u29, u30, u31, u32, u33, u34, u35, u36, u37, u38, u39, u40, u41, u42, u43, u44, u45, u46, u47, u48, u49, u50, u51, u52, u53, u54, u55, u56, u57, u58, u59, u60, u61, u62, u63, u64, u65, u66, u67, u68, u69, u70, u71, u72, u73, u74, u75, u76, u77, u78, u79, u80, u81, u82, u83, u84, u85, u86, u87, u88, u89, u90, u91, u92, u93, u94, u95, u96, u97, u98, u99, u100, u101, u102, u103, u104, u105, u106, u107, u108, u109, u110, u111, u112, u113, u114, u115, u116, u117, u118, u119, u120, u121, u122, u123, u124, u125, u126, u127, u128, u129, u130, u131, u132, u133, u134, u135, u136, u137, u138, u139, u140, u141, u142, u143, u144, u145, u146, u147, u148, u149, u150, u151, u152, u153, u154, u155, u156, u157, u158, u159, u160, u161, u162, u163, u164, u165, u166, u167, u168, u169, u170, u171, u172, u173, u174, u175, u176, u177, u178, u179, u180, u181, u182, u183, u184, u185, u186, u187, u188, u189, u190, u191, u192, u193, u194, u195, u196, u197, u198, u199, u200, u201, u202, u203, u204, u205, u206, u207, u208, u209, u210, u211, u212, u213, u214, u215, u216, u217, u218, u219, u220, u221, u222, u223, u224, u225, u226, u227, u228, u229, u230, u231, u232, u233, u234, u235], []⟩ R2 := by
 have HZ := hid hx
 have HI1 := hid h1
 have HI2 := hid h2
 have Hfx := hid hf
 have Hq := hid hq
 have Hq0 := hid hq0
 have KR := hid hKR
 have Hi0 := hid hi0
 have HB1 := hid hB1
 have HB2 := hid hB2
 have HB3 := hid hB3
 have KR2 := hid hKR2
 have Ho := hid ho
 have Hi := hid hi
 have HC := hid hC
 clear hx h1 h2 hf hq hq0 hKR hi0 hB1 hB2 hB3 hKR2 ho hi hC
 conv => arg 2; whnf
 go_upto_region 5 with fail
 rename_i Kx1 a1 Kx2 a2
 have AH := hid a1
 clear a1
 have HW := hid (show ∀ X, Mem R2 X [] → Below w.heap.size w X from fun X hX => KR2.out.2.trans (hX.2.mono KR2.out.2.size))
 have HcG := hid (fun X (hX : Mem R2 X []) => ((KR2.out.at_ (b := G) (cs := pbc x) (t := 34) (by simp)).next hX.2))
 have HcF := hid (fun X (hX : Mem R2 X []) => ((KR2.out.at_ (b := F) (cs := pbc y) (t := 34) (by simp)).next hX.2))
 have HcC := hid (fun X (hX : Mem R2 X []) => ((KR2.out.at_ (b := C) (cs := pbc q) (t := 34) (by simp)).next hX.2))
 have Hi2 := hid (show ∀ X, Mem R2 X [] → PbIn X q from fun X hX => (Hi.out.next HB3.out).next hX.2)
 have HP := hid (fun X (hX : Mem R2 X []) => p_Same17 x y X (HI1.out.next (HW.out X hX)) (HI2.out.next (HW.out X hX)))
 have HR := hid (fun X (hX : Mem R2 X []) => r17_Same x y X (HI1.out.next (HW.out X hX)) (HI2.out.next (HW.out X hX)))
 have HR2 := hid (fun X (hX : Mem R2 X []) => r17_Same q x X (Hi2.out X hX) (HI1.out.next (HW.out X hX)))
 have HT1 := hid (fun X (hX : Mem R2 X []) => show Calls Tryz.prog 14 #[pbv q] X (Did (.bool (pbR x.p)) X) from by have h := p_Right17 q X (Hi2.out X hX) (few_of17 Hq.out Hfx.out); rw [Hq.out] at h; exact h)
 have HT2 := hid (fun X (hX : Mem R2 X []) => p_Right17 x X (HI1.out.next (HW.out X hX)) Hfx.out)
 generalize pbR x.p = pr at HT1 HT2
 have M0 := hid (Mem.nil R2).drew
 have HKR := hid KR2.out
 skip
 refine wp_region_held_drew (S := fun X => Mem R2 X []) (by kernel_rfl) M0.out (fun hHeld => ?_)
 refine tkH 0 32 (pbv x) rfl rfl (fun X hX => load15 (HcG.out X hX) _ _ 2 rfl rfl) hHeld ?_
 simp only [pt, List.set]
 refine tkH 1 33 (pbv y) rfl rfl (fun X hX => load15 (HcF.out X hX) _ _ 3 rfl rfl) hHeld ?_
 simp only [pt, List.set]
 refine tkH 3 35 (pbv x) rfl rfl (fun X hX => load15 (HcG.out X hX) _ _ 2 rfl rfl) hHeld ?_
 simp only [pt, List.set]
 refine tkH 4 36 (pbv y) rfl rfl (fun X hX => load15 (HcF.out X hX) _ _ 3 rfl rfl) hHeld ?_
 simp only [pt, List.set]
 obtain ⟨V0, hV0⟩ : ∃ V0, R2.drew = V0 := ⟨_, rfl⟩
 rw [hV0] at M0 hHeld ⊢
 clear hV0
 refine wpAnyH_ready (rs := [2]) (by kernel_rfl) (by simp) ?_
 refine AllReadyH.cons rfl (fun KK hK => ?_) AllReadyH.nil
 simp only [List.getElem_toArray, List.getElem_cons_succ, List.getElem_cons_zero]
 go_simp
 refine (HP.out _ M0.out).mono ?_
 rintro e V1 ⟨b1, rfl, hb1, bz⟩
 have M1 := hid (M0.out.next bz)
 have Hb1 := hid hb1
 clear bz hb1
 refine hK.out _ _ M1.out (fun hHeld => ?_)
 clear hK KK
 try simp only [pt, List.set]
 refine wpAnyH_ready (rs := [5]) (by kernel_rfl) (by simp) ?_
 refine AllReadyH.cons rfl (fun KK hK => ?_) AllReadyH.nil
 simp only [List.getElem_toArray, List.getElem_cons_succ, List.getElem_cons_zero]
 go_simp
 refine (HR.out _ M1.out).mono ?_
 rintro e V2 ⟨b2, rfl, hb2, bz⟩
 have M2 := hid (M1.out.next bz)
 obtain rfl : b2 = b1 := by rw [Bool.eq_iff_iff, hb2, Hb1.out]
 clear bz hb2 Hb1
 refine hK.out _ _ M2.out (fun hHeld => ?_)
 clear hK KK
 try simp only [pt, List.set]
 refine tkH 6 38 (.bool false) rfl rfl (fun X hX => by clear hX; cases b2 <;> first | rfl | go_simp) hHeld ?_
 simp only [pt, List.set]
 refine tkD 7 39 (.bool false) rfl rfl hHeld ?_
 simp only [pt, List.set]
 refine tkH 8 40 (pbv q) rfl rfl (fun X hX => load15 (HcC.out X hX) _ _ 6 rfl rfl) hHeld ?_
 simp only [pt, List.set]
 refine tkH 9 41 (pbv x) rfl rfl (fun X hX => load15 (HcG.out X hX) _ _ 2 rfl rfl) hHeld ?_
 simp only [pt, List.set]
 refine wpAnyH_ready (rs := [10]) (by kernel_rfl) (by simp) ?_
 refine AllReadyH.cons rfl (fun KK hK => ?_) AllReadyH.nil
 simp only [List.getElem_toArray, List.getElem_cons_succ, List.getElem_cons_zero]
 go_simp
 refine (HR2.out _ M2.out).mono ?_
 rintro e V3 ⟨b3, rfl, hb3, bz⟩
 have M3 := hid (M2.out.next bz)
 obtain rfl : b3 = true := hb3.2 Hq.out
 clear bz hb3
 refine hK.out _ _ M3.out (fun hHeld => ?_)
 clear hK KK
 try simp only [pt, List.set]
 refine tkD 11 43 (.bool false) rfl rfl hHeld ?_
 simp only [pt, List.set]
 refine tkD 12 44 (.bool false) rfl rfl hHeld ?_
 simp only [pt, List.set]
 refine tkD 13 45 (.bool false) rfl rfl hHeld ?_
 simp only [pt, List.set]
 refine tkH 14 46 (pbv q) rfl rfl (fun X hX => load15 (HcC.out X hX) _ _ 6 rfl rfl) hHeld ?_
 simp only [pt, List.set]
 refine tkH 16 48 (pbv x) rfl rfl (fun X hX => load15 (HcG.out X hX) _ _ 2 rfl rfl) hHeld ?_
 simp only [pt, List.set]
 refine wpAnyH_ready (rs := [15]) (by kernel_rfl) (by simp) ?_
 refine AllReadyH.cons rfl (fun KK hK => ?_) AllReadyH.nil
 simp only [List.getElem_toArray, List.getElem_cons_succ, List.getElem_cons_zero]
 go_simp
 refine (HT1.out _ M3.out).mono ?_
 rintro e V4 ⟨rfl, bz⟩
 have M4 := hid (M3.out.next bz)
 clear bz
 refine hK.out _ _ M4.out (fun hHeld => ?_)
 clear hK KK
 try simp only [pt, List.set]
 refine wpAnyH_ready (rs := [17]) (by kernel_rfl) (by simp) ?_
 refine AllReadyH.cons rfl (fun KK hK => ?_) AllReadyH.nil
 simp only [List.getElem_toArray, List.getElem_cons_succ, List.getElem_cons_zero]
 go_simp
 refine (HT2.out _ M4.out).mono ?_
 rintro e V5 ⟨rfl, bz⟩
 have M5 := hid (M4.out.next bz)
 clear bz
 refine hK.out _ _ M5.out (fun hHeld => ?_)
 clear hK KK
 try simp only [pt, List.set]
 refine tkH 18 50 (.bool false) rfl rfl (fun X hX => by clear hX; cases pr <;> first | rfl | go_simp) hHeld ?_
 simp only [pt, List.set]
 refine tkD 19 51 (.bool false) rfl rfl hHeld ?_
 simp only [pt, List.set]
 refine wpAnyH_done (by kernel_rfl) ?_ _
 clear hHeld M0 M1 M2 M3 M4 HP HR HR2 HT1 HT2 HcG HcF HcC
 go_wp2_with fail
 refine AH.out _ _ ?_
 clear AH
 have HY := hid (show Below Y3.heap.size Y3 V5 from HB3.out.trans (M5.out.2.mono HB3.out.size))
 have HRY := hid (show Below R.heap.size R V5 from HB2.out.trans (HY.out.mono HB2.out.size))
 have hown : PbOwn R.heap.size V5 q := Ho.out.abv (Abv.of HY.out)
 have obV : ∀ (B : Nat) (cs : List Value), Ob R B cs 34 → ∀ wr, Below R.heap.size V5 wr → Ob wr B cs 34 := fun B cs h wr hb => (h.next HRY.out).below hb h.lt
 refine law17_rm x y q q0 w V5 V5 R.heap.size G F D C ⟨hown, (HKR.out.at_ (b := C) (cs := pbc q) (t := 34) (by simp)).next M5.out.2, by have h1 := HB2.out.size; have h2 := HC.out; omega, few_of17 Hq.out Hfx.out, nm_of17 Hq.out HZ.out, Hq0.out.symm, fun wr hs => ?_⟩ (Spl.refl HRY.out.size) (nm_at17 hown)
 have hbw : Below w.heap.size w wr := (HW.out V5 M5.out).trans (hs.below.mono KR.out.2.size)
 refine ⟨obV G _ (KR.out.at_ (b := G) (cs := pbc x) (t := 34) (by simp)) wr hs.below, obV D _ (KR.out.at_ (b := D) (cs := pbc q0) (t := 34) (by simp)) wr hs.below, HI1.out.next hbw, Hi0.out.next (((HB1.out).trans (HRY.out.mono HB1.out.size)).trans (hs.below.mono HB1.out.size)), hbw⟩
end Go.Proofs.YtgmgccepmalahaaGreat
namespace Go.Proofs.YtgmgccepmalahaaGreat
open Go.RowKit
open Whn (Gr Wh)
set_option linter.unusedVariables false
set_option maxRecDepth 40000 in
set_option maxHeartbeats 32000000 in
theorem l17_ProblemCopies (x y : PbA) (hx : PbBig x) (w : World) (h1 : PbIn w x) (h2 : PbIn w y) : Calls Tryz.prog 5 #[pbv x, pbv y] w (Did (.bool true) w) := by
 have HH := hid (fun X => heads17 X)
 have HFx := hid (fun X (hb : Below w.heap.size w X) => r17_Few x X (h1.next hb))
 have HFy := hid (fun X (hb : Below w.heap.size w X) => r17_Few y X (h2.next hb))
 have HI1 := hid h1
 have HI2 := hid h2
 have HZ := hid hx
 obtain ⟨G, W, hG, hW, K0, hb0⟩ := (Mem.nil w).one (pbc x) 34
 obtain ⟨F, V, hF, hV, K, hb1⟩ := K0.out.one (pbc y) 34
 have Hcell := hid (fun X (h : Mem w X [(F, pbc y, 34), (G, pbc x, 34)]) => And.intro (h.at_ (b := G) (cs := pbc x) (t := 34) (by simp)).pb15 (h.at_ (b := F) (cs := pbc y) (t := 34) (by simp)).pb15)
 obtain ⟨⟨p0, p1, p2, p3, p4, p5, p6, p7, p8, p9, p10, p11, p12, p13, p14⟩, s0, s1, s2, s3, s4, s5, s6, s7, s8, s9, s10, s11, s12, s13, s14⟩ := Hcell.out _ K.out
 clear h1 h2 hx hb0 hb1 K0
 go_enter Tryz.func5, Tryz.ntmps5
 go_wp2_with fail
 refine (HFx.out _ K.out.2).mono ?_
 rintro e Y0 ⟨fb, rfl, hfb, bz⟩
 have K1 := hid (K.out.next bz)
 clear p0 s0 p1 s1 p2 s2 p3 s3 p4 s4 p5 s5 p6 s6 p7 s7 p8 s8 p9 s9 p10 s10 p11 s11 p12 s12 p13 s13 p14 s14
 clear bz K hW hV HFx
 cases fb with
 | false =>
  clear hfb
  go_wp2_with fail
  refine (HH.out _).mono ?_
  rintro e Y9 ⟨rfl, bz⟩
  have K9 := hid (K1.out.next bz)
  go_wp2_with fail
  go_ret
  exact Did.mk rfl K9.out.2
 | true =>
  have Hfx := hid (hfb rfl)
  clear hfb
  obtain ⟨⟨p0, p1, p2, p3, p4, p5, p6, p7, p8, p9, p10, p11, p12, p13, p14⟩, s0, s1, s2, s3, s4, s5, s6, s7, s8, s9, s10, s11, s12, s13, s14⟩ := Hcell.out _ K1.out
  go_wp2_with fail
  refine (HFy.out _ K1.out.2).mono ?_
  rintro e Y1 ⟨fb, rfl, hfb, bz⟩
  have K2 := hid (K1.out.next bz)
  clear p0 s0 p1 s1 p2 s2 p3 s3 p4 s4 p5 s5 p6 s6 p7 s7 p8 s8 p9 s9 p10 s10 p11 s11 p12 s12 p13 s13 p14 s14
  clear bz K1 HFy
  cases fb with
  | false =>
   clear hfb
   go_wp2_with fail
   refine (HH.out _).mono ?_
   rintro e Y9 ⟨rfl, bz⟩
   have K9 := hid (K2.out.next bz)
   go_wp2_with fail
   go_ret
   exact Did.mk rfl K9.out.2
  | true =>
   clear hfb
   obtain ⟨⟨p0, p1, p2, p3, p4, p5, p6, p7, p8, p9, p10, p11, p12, p13, p14⟩, s0, s1, s2, s3, s4, s5, s6, s7, s8, s9, s10, s11, s12, s13, s14⟩ := Hcell.out _ K2.out
   go_wp2_with fail
   refine (r17_Copy x (fits_of17 Hfx.out) HZ.out Y1 (HI1.out.next K2.out.2)).mono ?_
   rintro e Y2 ⟨q0, rfl, hq0, ho0, hi0, bz⟩
   have K3 := hid (K2.out.next bz)
   have Hq0 := hid hq0
   have Hi0 := hid hi0
   clear p0 s0 p1 s1 p2 s2 p3 s3 p4 s4 p5 s5 p6 s6 p7 s7 p8 s8 p9 s9 p10 s10 p11 s11 p12 s12 p13 s13 p14 s14
   clear bz K2 hq0 ho0 hi0
   obtain ⟨D, U, hD, hU, KU, b4⟩ := K3.out.one [.string ⟨#[]⟩, .int .i64 0, .int .i64 0, .int .i64 0, .slice none 0 0, .slice none 0 0, .slice none 0 0, .slice none 0 0, .slice none 0 0, .slice none 0 0, .slice none 0 0, .int .i64 0, .int .i64 0, .int .i64 0, .int .i64 0] 34
   have HND := hid (show ∀ p ∈ ([(F, pbc y, 34), (G, pbc x, 34)] : Obs), p.1 ≠ D from by
    have h1 := (K3.out.at_ (b := F) (cs := pbc y) (t := 34) (by simp)).lt
    have h2 := (K3.out.at_ (b := G) (cs := pbc x) (t := 34) (by simp)).lt
    simp only [List.mem_cons, List.not_mem_nil, or_false]
    rintro p (rfl | rfl) <;> (simp only [ne_eq]; omega))
   have h9 : w.heap.size ≤ D := by have := K3.out.2.size; omega
   have gz := (KU.out.at_ (b := D) (cs := [.string ⟨#[]⟩, .int .i64 0, .int .i64 0, .int .i64 0, .slice none 0 0, .slice none 0 0, .slice none 0 0, .slice none 0 0, .slice none 0 0, .slice none 0 0, .slice none 0 0, .int .i64 0, .int .i64 0, .int .i64 0, .int .i64 0]) (t := 34) (by simp)).free
   have f0 := gz 0
   have z0 := KU.out.cell (b := D) (cs := [.string ⟨#[]⟩, .int .i64 0, .int .i64 0, .int .i64 0, .slice none 0 0, .slice none 0 0, .slice none 0 0, .slice none 0 0, .slice none 0 0, .slice none 0 0, .slice none 0 0, .int .i64 0, .int .i64 0, .int .i64 0, .int .i64 0]) (t := 34) (by simp) (k := 0) rfl
   have f1 := gz 1
   have z1 := KU.out.cell (b := D) (cs := [.string ⟨#[]⟩, .int .i64 0, .int .i64 0, .int .i64 0, .slice none 0 0, .slice none 0 0, .slice none 0 0, .slice none 0 0, .slice none 0 0, .slice none 0 0, .slice none 0 0, .int .i64 0, .int .i64 0, .int .i64 0, .int .i64 0]) (t := 34) (by simp) (k := 1) rfl
   have f2 := gz 2
   have z2 := KU.out.cell (b := D) (cs := [.string ⟨#[]⟩, .int .i64 0, .int .i64 0, .int .i64 0, .slice none 0 0, .slice none 0 0, .slice none 0 0, .slice none 0 0, .slice none 0 0, .slice none 0 0, .slice none 0 0, .int .i64 0, .int .i64 0, .int .i64 0, .int .i64 0]) (t := 34) (by simp) (k := 2) rfl
   have f3 := gz 3
   have z3 := KU.out.cell (b := D) (cs := [.string ⟨#[]⟩, .int .i64 0, .int .i64 0, .int .i64 0, .slice none 0 0, .slice none 0 0, .slice none 0 0, .slice none 0 0, .slice none 0 0, .slice none 0 0, .slice none 0 0, .int .i64 0, .int .i64 0, .int .i64 0, .int .i64 0]) (t := 34) (by simp) (k := 3) rfl
   have f4 := gz 4
   have z4 := KU.out.cell (b := D) (cs := [.string ⟨#[]⟩, .int .i64 0, .int .i64 0, .int .i64 0, .slice none 0 0, .slice none 0 0, .slice none 0 0, .slice none 0 0, .slice none 0 0, .slice none 0 0, .slice none 0 0, .int .i64 0, .int .i64 0, .int .i64 0, .int .i64 0]) (t := 34) (by simp) (k := 4) rfl
   have f5 := gz 5
   have z5 := KU.out.cell (b := D) (cs := [.string ⟨#[]⟩, .int .i64 0, .int .i64 0, .int .i64 0, .slice none 0 0, .slice none 0 0, .slice none 0 0, .slice none 0 0, .slice none 0 0, .slice none 0 0, .slice none 0 0, .int .i64 0, .int .i64 0, .int .i64 0, .int .i64 0]) (t := 34) (by simp) (k := 5) rfl
   have f6 := gz 6
   have z6 := KU.out.cell (b := D) (cs := [.string ⟨#[]⟩, .int .i64 0, .int .i64 0, .int .i64 0, .slice none 0 0, .slice none 0 0, .slice none 0 0, .slice none 0 0, .slice none 0 0, .slice none 0 0, .slice none 0 0, .int .i64 0, .int .i64 0, .int .i64 0, .int .i64 0]) (t := 34) (by simp) (k := 6) rfl
   have f7 := gz 7
   have z7 := KU.out.cell (b := D) (cs := [.string ⟨#[]⟩, .int .i64 0, .int .i64 0, .int .i64 0, .slice none 0 0, .slice none 0 0, .slice none 0 0, .slice none 0 0, .slice none 0 0, .slice none 0 0, .slice none 0 0, .int .i64 0, .int .i64 0, .int .i64 0, .int .i64 0]) (t := 34) (by simp) (k := 7) rfl
   have f8 := gz 8
   have z8 := KU.out.cell (b := D) (cs := [.string ⟨#[]⟩, .int .i64 0, .int .i64 0, .int .i64 0, .slice none 0 0, .slice none 0 0, .slice none 0 0, .slice none 0 0, .slice none 0 0, .slice none 0 0, .slice none 0 0, .int .i64 0, .int .i64 0, .int .i64 0, .int .i64 0]) (t := 34) (by simp) (k := 8) rfl
   have f9 := gz 9
   have z9 := KU.out.cell (b := D) (cs := [.string ⟨#[]⟩, .int .i64 0, .int .i64 0, .int .i64 0, .slice none 0 0, .slice none 0 0, .slice none 0 0, .slice none 0 0, .slice none 0 0, .slice none 0 0, .slice none 0 0, .int .i64 0, .int .i64 0, .int .i64 0, .int .i64 0]) (t := 34) (by simp) (k := 9) rfl
   have f10 := gz 10
   have z10 := KU.out.cell (b := D) (cs := [.string ⟨#[]⟩, .int .i64 0, .int .i64 0, .int .i64 0, .slice none 0 0, .slice none 0 0, .slice none 0 0, .slice none 0 0, .slice none 0 0, .slice none 0 0, .slice none 0 0, .int .i64 0, .int .i64 0, .int .i64 0, .int .i64 0]) (t := 34) (by simp) (k := 10) rfl
   have f11 := gz 11
   have z11 := KU.out.cell (b := D) (cs := [.string ⟨#[]⟩, .int .i64 0, .int .i64 0, .int .i64 0, .slice none 0 0, .slice none 0 0, .slice none 0 0, .slice none 0 0, .slice none 0 0, .slice none 0 0, .slice none 0 0, .int .i64 0, .int .i64 0, .int .i64 0, .int .i64 0]) (t := 34) (by simp) (k := 11) rfl
   have f12 := gz 12
   have z12 := KU.out.cell (b := D) (cs := [.string ⟨#[]⟩, .int .i64 0, .int .i64 0, .int .i64 0, .slice none 0 0, .slice none 0 0, .slice none 0 0, .slice none 0 0, .slice none 0 0, .slice none 0 0, .slice none 0 0, .int .i64 0, .int .i64 0, .int .i64 0, .int .i64 0]) (t := 34) (by simp) (k := 12) rfl
   have f13 := gz 13
   have z13 := KU.out.cell (b := D) (cs := [.string ⟨#[]⟩, .int .i64 0, .int .i64 0, .int .i64 0, .slice none 0 0, .slice none 0 0, .slice none 0 0, .slice none 0 0, .slice none 0 0, .slice none 0 0, .slice none 0 0, .int .i64 0, .int .i64 0, .int .i64 0, .int .i64 0]) (t := 34) (by simp) (k := 13) rfl
   have f14 := gz 14
   have z14 := KU.out.cell (b := D) (cs := [.string ⟨#[]⟩, .int .i64 0, .int .i64 0, .int .i64 0, .slice none 0 0, .slice none 0 0, .slice none 0 0, .slice none 0 0, .slice none 0 0, .slice none 0 0, .slice none 0 0, .int .i64 0, .int .i64 0, .int .i64 0, .int .i64 0]) (t := 34) (by simp) (k := 14) rfl
   clear gz
   obtain ⟨R, hR⟩ : ∃ R, (((((((((((((((U.setCell ⟨D, 0, none⟩ (txt q0.n)).setCell ⟨D, 1, none⟩ (.int .i64 q0.g.w)).setCell ⟨D, 2, none⟩ (.int .i64 q0.g.d)).setCell ⟨D, 3, none⟩ (.int .i64 q0.g.s)).setCell ⟨D, 4, none⟩ (.slice q0.r0 q0.rm.length q0.c0)).setCell ⟨D, 5, none⟩ (.slice q0.r1 q0.wk.length q0.c1)).setCell ⟨D, 6, none⟩ (.slice q0.r2 q0.ps.length q0.c2)).setCell ⟨D, 7, none⟩ (.slice q0.r3 q0.cl.length q0.c3)).setCell ⟨D, 8, none⟩ (.slice q0.r4 q0.cs.length q0.c4)).setCell ⟨D, 9, none⟩ (.slice q0.r5 q0.st.length q0.c5)).setCell ⟨D, 10, none⟩ (.slice q0.r6 q0.rl.length q0.c6)).setCell ⟨D, 11, none⟩ (.int .i64 q0.w0)).setCell ⟨D, 12, none⟩ (.int .i64 q0.w1)).setCell ⟨D, 13, none⟩ (.int .i64 q0.w2)).setCell ⟨D, 14, none⟩ (.int .i64 q0.w3)) = R := ⟨_, rfl⟩
   have hst := store15 (Y := Y2) KU.out h9 HND.out (Nat.le_of_eq hD) b4 (txt q0.n) (.int .i64 q0.g.w) (.int .i64 q0.g.d) (.int .i64 q0.g.s) (.slice q0.r0 q0.rm.length q0.c0) (.slice q0.r1 q0.wk.length q0.c1) (.slice q0.r2 q0.ps.length q0.c2) (.slice q0.r3 q0.cl.length q0.c3) (.slice q0.r4 q0.cs.length q0.c4) (.slice q0.r5 q0.st.length q0.c5) (.slice q0.r6 q0.rl.length q0.c6) (.int .i64 q0.w0) (.int .i64 q0.w1) (.int .i64 q0.w2) (.int .i64 q0.w3)
   rw [hR] at hst
   have KR := hid (show Mem w R [(D, pbc q0, 34), (F, pbc y, 34), (G, pbc x, 34)] from hst.1)
   have HB1 := hid hst.2
   clear hst
   clear h9 b4 HND KU
   obtain ⟨⟨p0, p1, p2, p3, p4, p5, p6, p7, p8, p9, p10, p11, p12, p13, p14⟩, s0, s1, s2, s3, s4, s5, s6, s7, s8, s9, s10, s11, s12, s13, s14⟩ := Hcell.out _ (KR.out.sub (l' := [(F, pbc y, 34), (G, pbc x, 34)]) (by simp))
   go_wp2_with fail
   refine (p_Copy17 x (fits_of17 Hfx.out) HZ.out R (HI1.out.next KR.out.2)).mono ?_
   rintro e Y3 ⟨q, rfl, hq, ho, hi, bz⟩
   have K5 := hid (KR.out.next bz)
   have Hq := hid hq
   have Ho := hid ho
   have Hi := hid hi
   have HB2 := hid bz
   clear p0 s0 p1 s1 p2 s2 p3 s3 p4 s4 p5 s5 p6 s6 p7 s7 p8 s8 p9 s9 p10 s10 p11 s11 p12 s12 p13 s13 p14 s14
   clear f0 z0 f1 z1 f2 z2 f3 z3 f4 z4 f5 z5 f6 z6 f7 z7 f8 z8 f9 z9 f10 z10 f11 z11 f12 z12 f13 z13 f14 z14
   clear hq ho hi bz hR hU hD K3
   obtain ⟨C, U2, hC, hU, KU2, b4⟩ := K5.out.one [.string ⟨#[]⟩, .int .i64 0, .int .i64 0, .int .i64 0, .slice none 0 0, .slice none 0 0, .slice none 0 0, .slice none 0 0, .slice none 0 0, .slice none 0 0, .slice none 0 0, .int .i64 0, .int .i64 0, .int .i64 0, .int .i64 0] 34
   have HNC := hid (show ∀ p ∈ ([(D, pbc q0, 34), (F, pbc y, 34), (G, pbc x, 34)] : Obs), p.1 ≠ C from by
    have h1 := (K5.out.at_ (b := D) (cs := pbc q0) (t := 34) (by simp)).lt
    have h2 := (K5.out.at_ (b := F) (cs := pbc y) (t := 34) (by simp)).lt
    have h3 := (K5.out.at_ (b := G) (cs := pbc x) (t := 34) (by simp)).lt
    simp only [List.mem_cons, List.not_mem_nil, or_false]
    rintro p (rfl | rfl | rfl) <;> (simp only [ne_eq]; omega))
   have h9 : w.heap.size ≤ C := by have := K5.out.2.size; omega
   have gz := (KU2.out.at_ (b := C) (cs := [.string ⟨#[]⟩, .int .i64 0, .int .i64 0, .int .i64 0, .slice none 0 0, .slice none 0 0, .slice none 0 0, .slice none 0 0, .slice none 0 0, .slice none 0 0, .slice none 0 0, .int .i64 0, .int .i64 0, .int .i64 0, .int .i64 0]) (t := 34) (by simp)).free
   have f0 := gz 0
   have z0 := KU2.out.cell (b := C) (cs := [.string ⟨#[]⟩, .int .i64 0, .int .i64 0, .int .i64 0, .slice none 0 0, .slice none 0 0, .slice none 0 0, .slice none 0 0, .slice none 0 0, .slice none 0 0, .slice none 0 0, .int .i64 0, .int .i64 0, .int .i64 0, .int .i64 0]) (t := 34) (by simp) (k := 0) rfl
   have f1 := gz 1
   have z1 := KU2.out.cell (b := C) (cs := [.string ⟨#[]⟩, .int .i64 0, .int .i64 0, .int .i64 0, .slice none 0 0, .slice none 0 0, .slice none 0 0, .slice none 0 0, .slice none 0 0, .slice none 0 0, .slice none 0 0, .int .i64 0, .int .i64 0, .int .i64 0, .int .i64 0]) (t := 34) (by simp) (k := 1) rfl
   have f2 := gz 2
   have z2 := KU2.out.cell (b := C) (cs := [.string ⟨#[]⟩, .int .i64 0, .int .i64 0, .int .i64 0, .slice none 0 0, .slice none 0 0, .slice none 0 0, .slice none 0 0, .slice none 0 0, .slice none 0 0, .slice none 0 0, .int .i64 0, .int .i64 0, .int .i64 0, .int .i64 0]) (t := 34) (by simp) (k := 2) rfl
   have f3 := gz 3
   have z3 := KU2.out.cell (b := C) (cs := [.string ⟨#[]⟩, .int .i64 0, .int .i64 0, .int .i64 0, .slice none 0 0, .slice none 0 0, .slice none 0 0, .slice none 0 0, .slice none 0 0, .slice none 0 0, .slice none 0 0, .int .i64 0, .int .i64 0, .int .i64 0, .int .i64 0]) (t := 34) (by simp) (k := 3) rfl
   have f4 := gz 4
   have z4 := KU2.out.cell (b := C) (cs := [.string ⟨#[]⟩, .int .i64 0, .int .i64 0, .int .i64 0, .slice none 0 0, .slice none 0 0, .slice none 0 0, .slice none 0 0, .slice none 0 0, .slice none 0 0, .slice none 0 0, .int .i64 0, .int .i64 0, .int .i64 0, .int .i64 0]) (t := 34) (by simp) (k := 4) rfl
   have f5 := gz 5
   have z5 := KU2.out.cell (b := C) (cs := [.string ⟨#[]⟩, .int .i64 0, .int .i64 0, .int .i64 0, .slice none 0 0, .slice none 0 0, .slice none 0 0, .slice none 0 0, .slice none 0 0, .slice none 0 0, .slice none 0 0, .int .i64 0, .int .i64 0, .int .i64 0, .int .i64 0]) (t := 34) (by simp) (k := 5) rfl
   have f6 := gz 6
   have z6 := KU2.out.cell (b := C) (cs := [.string ⟨#[]⟩, .int .i64 0, .int .i64 0, .int .i64 0, .slice none 0 0, .slice none 0 0, .slice none 0 0, .slice none 0 0, .slice none 0 0, .slice none 0 0, .slice none 0 0, .int .i64 0, .int .i64 0, .int .i64 0, .int .i64 0]) (t := 34) (by simp) (k := 6) rfl
   have f7 := gz 7
   have z7 := KU2.out.cell (b := C) (cs := [.string ⟨#[]⟩, .int .i64 0, .int .i64 0, .int .i64 0, .slice none 0 0, .slice none 0 0, .slice none 0 0, .slice none 0 0, .slice none 0 0, .slice none 0 0, .slice none 0 0, .int .i64 0, .int .i64 0, .int .i64 0, .int .i64 0]) (t := 34) (by simp) (k := 7) rfl
   have f8 := gz 8
   have z8 := KU2.out.cell (b := C) (cs := [.string ⟨#[]⟩, .int .i64 0, .int .i64 0, .int .i64 0, .slice none 0 0, .slice none 0 0, .slice none 0 0, .slice none 0 0, .slice none 0 0, .slice none 0 0, .slice none 0 0, .int .i64 0, .int .i64 0, .int .i64 0, .int .i64 0]) (t := 34) (by simp) (k := 8) rfl
   have f9 := gz 9
   have z9 := KU2.out.cell (b := C) (cs := [.string ⟨#[]⟩, .int .i64 0, .int .i64 0, .int .i64 0, .slice none 0 0, .slice none 0 0, .slice none 0 0, .slice none 0 0, .slice none 0 0, .slice none 0 0, .slice none 0 0, .int .i64 0, .int .i64 0, .int .i64 0, .int .i64 0]) (t := 34) (by simp) (k := 9) rfl
   have f10 := gz 10
   have z10 := KU2.out.cell (b := C) (cs := [.string ⟨#[]⟩, .int .i64 0, .int .i64 0, .int .i64 0, .slice none 0 0, .slice none 0 0, .slice none 0 0, .slice none 0 0, .slice none 0 0, .slice none 0 0, .slice none 0 0, .int .i64 0, .int .i64 0, .int .i64 0, .int .i64 0]) (t := 34) (by simp) (k := 10) rfl
   have f11 := gz 11
   have z11 := KU2.out.cell (b := C) (cs := [.string ⟨#[]⟩, .int .i64 0, .int .i64 0, .int .i64 0, .slice none 0 0, .slice none 0 0, .slice none 0 0, .slice none 0 0, .slice none 0 0, .slice none 0 0, .slice none 0 0, .int .i64 0, .int .i64 0, .int .i64 0, .int .i64 0]) (t := 34) (by simp) (k := 11) rfl
   have f12 := gz 12
   have z12 := KU2.out.cell (b := C) (cs := [.string ⟨#[]⟩, .int .i64 0, .int .i64 0, .int .i64 0, .slice none 0 0, .slice none 0 0, .slice none 0 0, .slice none 0 0, .slice none 0 0, .slice none 0 0, .slice none 0 0, .int .i64 0, .int .i64 0, .int .i64 0, .int .i64 0]) (t := 34) (by simp) (k := 12) rfl
   have f13 := gz 13
   have z13 := KU2.out.cell (b := C) (cs := [.string ⟨#[]⟩, .int .i64 0, .int .i64 0, .int .i64 0, .slice none 0 0, .slice none 0 0, .slice none 0 0, .slice none 0 0, .slice none 0 0, .slice none 0 0, .slice none 0 0, .int .i64 0, .int .i64 0, .int .i64 0, .int .i64 0]) (t := 34) (by simp) (k := 13) rfl
   have f14 := gz 14
   have z14 := KU2.out.cell (b := C) (cs := [.string ⟨#[]⟩, .int .i64 0, .int .i64 0, .int .i64 0, .slice none 0 0, .slice none 0 0, .slice none 0 0, .slice none 0 0, .slice none 0 0, .slice none 0 0, .slice none 0 0, .int .i64 0, .int .i64 0, .int .i64 0, .int .i64 0]) (t := 34) (by simp) (k := 14) rfl
   clear gz
   obtain ⟨R2, hR2⟩ : ∃ R, (((((((((((((((U2.setCell ⟨C, 0, none⟩ (txt q.n)).setCell ⟨C, 1, none⟩ (.int .i64 q.g.w)).setCell ⟨C, 2, none⟩ (.int .i64 q.g.d)).setCell ⟨C, 3, none⟩ (.int .i64 q.g.s)).setCell ⟨C, 4, none⟩ (.slice q.r0 q.rm.length q.c0)).setCell ⟨C, 5, none⟩ (.slice q.r1 q.wk.length q.c1)).setCell ⟨C, 6, none⟩ (.slice q.r2 q.ps.length q.c2)).setCell ⟨C, 7, none⟩ (.slice q.r3 q.cl.length q.c3)).setCell ⟨C, 8, none⟩ (.slice q.r4 q.cs.length q.c4)).setCell ⟨C, 9, none⟩ (.slice q.r5 q.st.length q.c5)).setCell ⟨C, 10, none⟩ (.slice q.r6 q.rl.length q.c6)).setCell ⟨C, 11, none⟩ (.int .i64 q.w0)).setCell ⟨C, 12, none⟩ (.int .i64 q.w1)).setCell ⟨C, 13, none⟩ (.int .i64 q.w2)).setCell ⟨C, 14, none⟩ (.int .i64 q.w3)) = R := ⟨_, rfl⟩
   have hst := store15 (Y := Y3) KU2.out h9 HNC.out (Nat.le_of_eq hC) b4 (txt q.n) (.int .i64 q.g.w) (.int .i64 q.g.d) (.int .i64 q.g.s) (.slice q.r0 q.rm.length q.c0) (.slice q.r1 q.wk.length q.c1) (.slice q.r2 q.ps.length q.c2) (.slice q.r3 q.cl.length q.c3) (.slice q.r4 q.cs.length q.c4) (.slice q.r5 q.st.length q.c5) (.slice q.r6 q.rl.length q.c6) (.int .i64 q.w0) (.int .i64 q.w1) (.int .i64 q.w2) (.int .i64 q.w3)
   rw [hR2] at hst
   have KR2 := hid (show Mem w R2 [(C, pbc q, 34), (D, pbc q0, 34), (F, pbc y, 34), (G, pbc x, 34)] from hst.1)
   have HB3 := hid hst.2
   clear hst
   clear h9 b4 HNC KU2
   have HC := hid hC
   rename_i Kx1 a1 Kx2 a2
   have AH := hid a1
   clear a1
   go_wp2_with fail
   clear f0 z0 f1 z1 f2 z2 f3 z3 f4 z4 f5 z5 f6 z6 f7 z7 f8 z8 f9 z9 f10 z10 f11 z11 f12 z12 f13 z13 f14 z14
   refine AH.out _ _ ?_
   exact law17_5 x y q q0 HZ.out w HI1.out HI2.out Hfx.out Hq.out Hq0.out G F D C Y2 R Y3 R2 KR.out Hi0.out HB1.out HB2.out HB3.out KR2.out Ho.out Hi.out HC.out
end Go.Proofs.YtgmgccepmalahaaGreat
