/- What the proof of ProblemCopies stands on, part 25. -/
import Derived.Deep.DeepCutAuto
import Derived.Test.YtgmgccepmalahaaGreatCpAR
import Derived.Test.YtgmgccepmalahaaGreatCpAV
namespace Go.Proofs.YtgmgccepmalahaaGreat
open Go.RowKit
open Whn (Gr Wh)
set_option linter.unusedVariables false
theorem SL.one {S0 : World → Prop} {n : Nat} {T : World → Prop} {l : Array Bool} {w : World} (h : S0 w) (hT : T w) : SL S0 [(n, T)] l w := ⟨h, fun q hq _ => by rw [List.mem_singleton] at hq; subst hq; exact hT⟩
theorem SL.past {S0 : World → Prop} {n : Nat} {T : World → Prop} {l : Array Bool} {w : World} (h : S0 w) (hl : l.getD n true = true) : SL S0 [(n, T)] l w := ⟨h, fun q hq h2 => by rw [List.mem_singleton] at hq; subst hq; rw [hl] at h2; cases h2⟩
theorem SL.one3 {S0 : World → Prop} {n1 n2 n3 : Nat} {T : World → Prop} {l : Array Bool} {w : World} (h : S0 w) (hT : T w) : SL S0 [(n1, T), (n2, T), (n3, T)] l w := ⟨h, fun q hq _ => by simp only [List.mem_cons, List.not_mem_nil, or_false] at hq; rcases hq with rfl | rfl | rfl <;> exact hT⟩
theorem SL.past3 {S0 : World → Prop} {n1 n2 n3 : Nat} {T : World → Prop} {l : Array Bool} {w : World} (h : S0 w) (h1 : l.getD n1 true = true) (h2 : l.getD n2 true = true) (h3 : l.getD n3 true = true) : SL S0 [(n1, T), (n2, T), (n3, T)] l w := ⟨h, fun q hq h0 => by simp only [List.mem_cons, List.not_mem_nil, or_false] at hq; rcases hq with rfl | rfl | rfl <;> simp_all⟩
theorem ob_cells17 {X : World} {b : Nat} {cs : List Value} {t : TypeId} (h : Ob X b cs t) : ∀ (j : Nat) (u : Value), cs[j]? = some u → X.cell? ((⟨b, 0, none⟩ : Addr).add j) = some u := fun j u hu => by
 rw [show (Addr.add ⟨b, 0, none⟩ j) = ⟨b, j, none⟩ by unfold Addr.add; split <;> simp_all]
 exact h.cell hu
def rest17 : Nat → Code → Code
 | 0, c => c
 | n + 1, .seq _ b => rest17 n b
 | _ + 1, c => c
def body17 (F : Func) : Code := F.body.getD .skip
set_option maxRecDepth 40000 in
set_option maxHeartbeats 32000000 in
theorem r17_Copy_cs (x : PbA) (hf : PbFits x) (hz : PbBig x) (w : World) (h : PbIn w x) (G D Q : Nat) (hGD : w.heap.size ≤ G ∧ w.heap.size ≤ D ∧ G < D) (hQx : w.heap.size ≤ Q ∧ Q ≠ G ∧ Q ≠ D) (w0 : World) {A1 : Option Addr} {c1 : Nat} {A0 : Option Addr} {c0 : Nat} {A2 : Option Addr} {c2 : Nat} {A3 : Option Addr} {c3 : Nat} (KQ_ : Mem w w0 [(Q, [txt x.n, .int .i64 x.g.w, .int .i64 x.g.d, .int .i64 x.g.s, .slice A0 x.rm.length c0, .slice A1 x.wk.length c1, .slice A2 x.ps.length c2, .slice A3 x.cl.length c3, .slice none 0 0, .slice none 0 0, .slice none 0 0, .int .i64 x.w0, .int .i64 x.w1, .int .i64 x.w2, .int .i64 x.w3], 34), (D, [.string ⟨#[]⟩, .int .i64 0, .int .i64 0, .int .i64 0, .slice none 0 0, .slice none 0 0, .slice none 0 0, .slice none 0 0, .slice none 0 0, .slice none 0 0, .slice none 0 0, .int .i64 0, .int .i64 0, .int .i64 0, .int .i64 0], 34), (G, pbc x, 34)]) (HF1_ : I2Q x.wk w.heap.size A1 x.wk.length c1 w0) (HF0_ : RowQ enR 52 4 (fun z => z.r) RmE (x.rm.map (fun z => z.r)) w.heap.size A0 x.rm.length c0 w0) (HF2_ : RowQ enQ 57 2 (fun z => z.r) PsE (x.ps.map (fun z => z.r)) w.heap.size A2 x.ps.length c2 w0) (HF3_ : RowQ enC 62 7 (fun z => z.x) ClE (x.cl.map (fun z => z.x)) w.heap.size A3 x.cl.length c3 w0) {u4 u5 u6 u7 u8 u9 u10 u11 u12 u13 u14 u15 u16 u17 u18 u19 u20 u21 u22 u23 u24 u25 u26 u27 u28 u29 u30 u31 u32 u33 u34 u35 u36 u37 u38 u39 u40 u41 u42 u43 u44 u45 u46 u47 u48 u49 u50 u51 u52 u53 u54 u55 u56 u57 u58 u59 u60 u61 u62 u63 u64 u65 u66 u67 u68 u69 u70 u71 u72 u73 u74 u75 u76 u77 u78 u79 u80 u81 u82 u83 u84 u85 u86 u87 u88 u89 u90 u91 u92 u93 u94 u95 u96 u97 u98 u99 u100 u101 u102 u103 u104 u105 u106 u107 u108 u109 u110 u111 u112 u113 u114 u115 u116 u117 u118 u119 u120 u121 u122 u123 u124 u125 u126 u127 u128 u129 u130 u131 u132 u133 u134 u135 u136 u137 u138 u139 u140 u141 u142 u143 u144 u145 u146 u147 u148 u149 u150 u151 u152 u153 u154 u155 u156 u157 u158 u159 u160 u161 u162 u163 u164 u165 u166 u167 u168 u169 u170 u171 u172 u173 u174 u175 u176 u177 u178 u179 u180 u181 u182 u183 u184 u185 u186 u187 u188 u189 u190 u191 u192 u193 u194 u195 u196 u197 u198 u199 u200 u201 : Value} :
    Code.wp Tryz.prog (rest17 5 (body17 Tryz.f17)) (bodyPost Tryz.prog Tryz.f17 (PbCopied x w)) ⟨#[pbv x, .pointer (some ⟨G, 0, none⟩), .pointer (some ⟨D, 0, none⟩), .pointer (some ⟨Q, 0, none⟩), u4, u5, u6, u7, u8, u9, u10, u11, u12, u13, u14, u15, u16, u17, u18, u19, u20, u21, u22, u23, u24, u25, u26, u27, u28, u29, u30, u31, u32, u33, u34, u35, u36, u37, u38, u39, u40, u41, u42, u43, u44, u45, u46, u47, u48, u49, u50, u51, u52, u53, u54, u55, u56, u57, u58, u59, u60, u61, u62, u63, u64, u65, u66, u67, u68, u69, u70, u71, u72, u73, u74, u75, u76, u77, u78, u79, u80, u81, u82, u83, u84, u85, u86, u87, u88, u89, u90, u91, u92, u93, u94, u95, u96, u97, u98, u99, u100, u101, u102, u103, u104, u105, u106, u107, u108, u109, u110, u111, u112, u113, u114, u115, u116, u117, u118, u119, u120, u121, u122, u123, u124, u125, u126, u127, u128, u129, u130, u131, u132, u133, u134, u135, u136, u137, u138, u139, u140, u141, u142, u143, u144, u145, u146, u147, u148, u149, u150, u151, u152, u153, u154, u155, u156, u157, u158, u159, u160, u161, u162, u163, u164, u165, u166, u167, u168, u169, u170, u171, u172, u173, u174, u175, u176, u177, u178, u179, u180, u181, u182, u183, u184, u185, u186, u187, u188, u189, u190, u191, u192, u193, u194, u195, u196, u197, u198, u199, u200, u201], []⟩ w0 := by
 have HFt := hid hf
 have HZ := hid hz
 have hr : reachBytes ≤ 140737488355328 := by decide
 obtain ⟨f0, f1, f2, f3, f4, f5, f6⟩ := hf
 have HWk := hid (fun X (hX : Below w.heap.size w X) => r17_table x.wk x.r1 x.c1 (by omega) (fun l hl => Nat.le_trans (hz.wk l hl) hr) X (Rows2.next h.wk hX))
 have HCrm := hid (fun (y : RmA) (hy : y ∈ x.rm) X (hX : Below w.heap.size w X) => (r17_whens y.a y.c y.r.l (Nat.le_trans (hz.rm y hy).2 hr) X ((h.rmI y hy).next hX).2.1).mono fun _ _ h => h.cp)
 have HCps := hid (fun (y : PsA) (hy : y ∈ x.ps) X (hX : Below w.heap.size w X) => (r17_whens y.a y.c y.r.l (Nat.le_trans (hz.ps y hy).2 hr) X ((h.psI y hy).next hX).2.1).mono fun _ _ h => h.cp)
 have HCcl := hid (fun (y : ClA) (hy : y ∈ x.cl) X (hX : Below w.heap.size w X) => (r17_ints y.r.a y.r.ac y.x.p (Nat.le_trans (hz.cl y hy).1 hr) X ((h.clI y hy).next hX).2.1.1).mono fun _ _ h => h.cp)
 have HCst := hid (fun (y : StA) (hy : y ∈ x.st) X (hX : Below w.heap.size w X) => (r17_ints y.a y.c y.x.l (Nat.le_trans (hz.st y hy) hr) X ((h.stI y hy).next hX).2.1).mono fun _ _ h => h.cp)
 have HCrl := hid (fun (y : RlA) (hy : y ∈ x.rl) X (hX : Below w.heap.size w X) => (r17_ints y.r y.c y.x.l (Nat.le_trans (hz.rl y hy) hr) X ((h.rlI y hy).next hX).2.1).mono fun _ _ h => h.cp)
 have HBcl := hid (fun (y : ClA) (hy : y ∈ x.cl) => show y.x.t.length * 32 ≤ 140737488355328 ∧ y.x.l.length * 16 ≤ 140737488355328 from ⟨Nat.le_trans (hz.cl y hy).2.1 hr, Nat.le_trans (hz.cl y hy).2.2 hr⟩)
 have HBcs := hid (fun (y : CsA) (hy : y ∈ x.cs) => show y.x.ws.length * 24 ≤ 140737488355328 ∧ ∀ ls ∈ y.x.ws, ls.length * 24 ≤ 140737488355328 ∧ ∀ l ∈ ls, l.length * 8 ≤ 140737488355328 from ⟨Nat.le_trans (hz.cs y hy).1 hr, fun ls hl => ⟨Nat.le_trans ((hz.cs y hy).2 ls hl).1 hr, fun l hll => Nat.le_trans (((hz.cs y hy).2 ls hl).2 l hll) hr⟩⟩)
 have HI := hid h
 have HGD := hid hGD
 have HQx := hid hQx
 have KQ := hid KQ_
 have HGQ := hid (show w.heap.size ≤ G ∧ w.heap.size ≤ D ∧ w.heap.size ≤ Q ∧ Q ≠ G ∧ Q ≠ D from ⟨HGD.out.1, HGD.out.2.1, HQx.out.1, HQx.out.2.1, HQx.out.2.2⟩)
 have HNE := hid (show ∀ p ∈ ([(D, [.string ⟨#[]⟩, .int .i64 0, .int .i64 0, .int .i64 0, .slice none 0 0, .slice none 0 0, .slice none 0 0, .slice none 0 0, .slice none 0 0, .slice none 0 0, .slice none 0 0, .int .i64 0, .int .i64 0, .int .i64 0, .int .i64 0], 34), (G, pbc x, 34)] : Obs), p.1 ≠ Q from by simp only [List.mem_cons, List.not_mem_nil, or_false]; rintro p (rfl | rfl) <;> first | exact fun e => HQx.out.2.2 e.symm | exact fun e => HQx.out.2.1 e.symm)
 have HF1 := hid HF1_
 have HF0 := hid HF0_
 have HF2 := hid HF2_
 have HF3 := hid HF3_
 clear h hz hr hGD hQx KQ_ HF1_ HF0_ HF2_ HF3_
 conv => arg 2; whnf
 obtain ⟨C, hC⟩ : ∃ C, w0.heap.size = C := ⟨_, rfl⟩
 have HC := hid hC
 have HGC := hid (show w.heap.size ≤ C ∧ G < C ∧ D < C ∧ Q < C from by
  have h1 := (KQ.out.at_ (b := G) (cs := pbc x) (t := 34) (by simp)).lt
  have h2 := (KQ.out.at_ (b := D) (cs := [.string ⟨#[]⟩, .int .i64 0, .int .i64 0, .int .i64 0, .slice none 0 0, .slice none 0 0, .slice none 0 0, .slice none 0 0, .slice none 0 0, .slice none 0 0, .slice none 0 0, .int .i64 0, .int .i64 0, .int .i64 0, .int .i64 0]) (t := 34) (by simp)).lt
  have h3 := (KQ.out.at_ (b := Q) (cs := [txt x.n, .int .i64 x.g.w, .int .i64 x.g.d, .int .i64 x.g.s, .slice A0 x.rm.length c0, .slice A1 x.wk.length c1, .slice A2 x.ps.length c2, .slice A3 x.cl.length c3, .slice none 0 0, .slice none 0 0, .slice none 0 0, .int .i64 x.w0, .int .i64 x.w1, .int .i64 x.w2, .int .i64 x.w3]) (t := 34) (by simp)).lt
  have h4 := KQ.out.2.size
  omega)
 clear hC
 have SO := hid (show ElOk CsE 65 2 from CsE_ok (by decide) (by decide) (by decide))
 go_wp2_with fail
 rename_i Kx a2
 have AH := hid a2
 clear a2
 go_loopw [9] (fun iv wr => ∃ (k : Nat) (A : Option Addr) (c : Nat), iv = .int .i64 ((k : Nat) : Int) ∧ k ≤ x.cs.length ∧ Hid (Mem w wr [(Q, [txt x.n, .int .i64 x.g.w, .int .i64 x.g.d, .int .i64 x.g.s, .slice A0 x.rm.length c0, .slice A1 x.wk.length c1, .slice A2 x.ps.length c2, .slice A3 x.cl.length c3, .slice A k c, .slice none 0 0, .slice none 0 0, .int .i64 x.w0, .int .i64 x.w1, .int .i64 x.w2, .int .i64 x.w3], 34), (D, [.string ⟨#[]⟩, .int .i64 0, .int .i64 0, .int .i64 0, .slice none 0 0, .slice none 0 0, .slice none 0 0, .slice none 0 0, .slice none 0 0, .slice none 0 0, .slice none 0 0, .int .i64 0, .int .i64 0, .int .i64 0, .int .i64 0], 34), (G, pbc x, 34)]) ∧ Hid (RowQ enK 65 2 (fun z => z.x) CsE ((x.cs.take k).map (fun z => z.x)) C A k c wr) ∧ Hid (AbT 34 w.heap.size w0.heap.size w0 wr)) (fun iv _ => x.cs.length - (intOf iv).toNat)
 case atStart => exact ⟨0, none, 0, rfl, Nat.zero_le _, KQ, hid ⟨[], by simp only [List.take_zero, List.map_nil], rfl, own_none _ _ _ _, fun z hz => by cases hz⟩, hid (AbT.refl _ _ _ _)⟩
 case round =>
  clear KQ
  obtain ⟨k, A4, c4, rfl, hk, KM, HQ, HT⟩ := hrel
  have hCwr := hid (show C ≤ wr.heap.size from by have := HT.out.1; have := HC.out; omega)
  have pG := KM.out.cell (b := G) (cs := pbc x) (t := 34) (by simp) (k := 8) rfl
  by_cases hlt : k < x.cs.length
  · skip
    obtain ⟨ad, y, e0, hadb, hy, hyl, hcell⟩ := Es.get (K := 2) enK_len (by decide) (HI.out.cs.below KM.out.2 (Nat.le_refl _)) hlt
    rw [e0] at pG
    have b1 : (0 : Int) ≤ (k : Int) := by omega
    have b2 : (k : Int) < x.cs.length := by omega
    have h63 : k + 1 ≤ maxLen := by unfold maxLen; omega
    have hby : (k + 1) * 40 ≤ 140737488355328 := by omega
    have Hds := hid (take_map17 (fun z : CsA => z.x) hy.out)
    obtain ⟨i0, hi0, hz0, hz1, hz2⟩ := info_parts Tryz.inf17_course
    obtain ⟨wo, hwo⟩ : ∃ X, X = wr := ⟨_, rfl⟩
    subst hwo
    have d0 := hcell 0 _ rfl
    rw [Nat.add_zero] at d0
    have d1 := hcell 1 _ rfl
    rw [add_add _ _ _ (by omega)] at d1
    obtain ⟨R, U, hR, hU, K2, hb2⟩ := KM.out.one [.string ⟨#[]⟩, .slice none 0 0] 65
    have HRw := hid (show w.heap.size ≤ R ∧ C ≤ R ∧ Q < R ∧ D < R ∧ G < R from by have := HGC.out; have := hCwr.out; omega)
    have HRN := hid (show ∀ p ∈ ([(Q, [txt x.n, .int .i64 x.g.w, .int .i64 x.g.d, .int .i64 x.g.s, .slice A0 x.rm.length c0, .slice A1 x.wk.length c1, .slice A2 x.ps.length c2, .slice A3 x.cl.length c3, .slice A4 k c4, .slice none 0 0, .slice none 0 0, .int .i64 x.w0, .int .i64 x.w1, .int .i64 x.w2, .int .i64 x.w3], 34), (D, [.string ⟨#[]⟩, .int .i64 0, .int .i64 0, .int .i64 0, .slice none 0 0, .slice none 0 0, .slice none 0 0, .slice none 0 0, .slice none 0 0, .slice none 0 0, .slice none 0 0, .int .i64 0, .int .i64 0, .int .i64 0, .int .i64 0], 34), (G, pbc x, 34)] : Obs), p.1 ≠ R from by simp only [List.mem_cons, List.not_mem_nil, or_false]; have := HRw.out; rintro p (rfl | rfl | rfl) <;> (simp only [ne_eq]; omega))
    have gz := (K2.out.at_ (b := R) (cs := [.string ⟨#[]⟩, .slice none 0 0]) (t := 65) (by simp)).free
    have f20 := gz 0
    have z20 := K2.out.cell (b := R) (cs := [.string ⟨#[]⟩, .slice none 0 0]) (t := 65) (by simp) (k := 0) rfl
    have f21 := gz 1
    have z21 := K2.out.cell (b := R) (cs := [.string ⟨#[]⟩, .slice none 0 0]) (t := 65) (by simp) (k := 1) rfl
    clear gz
    obtain ⟨U2, hU2⟩ : ∃ U2, ((U.setCell ⟨R, 0, none⟩ (txt y.x.n)).setCell ⟨R, 1, none⟩ (.slice none 0 0)) = U2 := ⟨_, rfl⟩
    have K3 := hid (show Mem w U2 [(R, [txt y.x.n, .slice none 0 0], 65), (Q, [txt x.n, .int .i64 x.g.w, .int .i64 x.g.d, .int .i64 x.g.s, .slice A0 x.rm.length c0, .slice A1 x.wk.length c1, .slice A2 x.ps.length c2, .slice A3 x.cl.length c3, .slice A4 k c4, .slice none 0 0, .slice none 0 0, .int .i64 x.w0, .int .i64 x.w1, .int .i64 x.w2, .int .i64 x.w3], 34), (D, [.string ⟨#[]⟩, .int .i64 0, .int .i64 0, .int .i64 0, .slice none 0 0, .slice none 0 0, .slice none 0 0, .slice none 0 0, .slice none 0 0, .slice none 0 0, .slice none 0 0, .int .i64 0, .int .i64 0, .int .i64 0, .int .i64 0], 34), (G, pbc x, 34)] from hU2 ▸ ((K2.out.set HRw.out.1 HRN.out 0 (txt y.x.n)).set HRw.out.1 HRN.out 1 (.slice none 0 0)))
    have B3 := hid (show Below wo.heap.size wo U2 from hU2 ▸ ((hb2.setCell (p := ⟨R, 0, none⟩) (Nat.le_of_eq hR) (txt y.x.n)).setCell (p := ⟨R, 1, none⟩) (Nat.le_of_eq hR) (.slice none 0 0)))
    have HRr := hid (Nat.le_of_eq hR)
    have HU2 := hid (show R < U2.heap.size from (K3.out.at_ (b := R) (cs := [txt y.x.n, .slice none 0 0]) (t := 65) (by simp)).lt)
    have HY := hid (HI.out.csI y hyl)
    have HBy := hid (HBcs.out y hyl)
    have hws : y.x.ws.length * 24 ≤ 140737488355328 := HBy.out.1
    obtain ⟨ws, hwm, hwl, hwE, hwI⟩ := rows3_es HY.out.2.1
    have HWm := hid hwm
    have HWl := hid hwl
    have HWE := hid hwE
    have HWI := hid hwI
    clear hcell hb2 K2 hwm hwl hwE hwI
    have Hrow := hid (fun X (hb : Below w.heap.size w X) => (show X.cell? (ad.add (k * 2)) = some (txt y.x.n) ∧ X.cell? ⟨(ad.add (k * 2)).block, (ad.add (k * 2)).off + 1, none⟩ = some (.slice y.a y.x.ws.length y.c) from by
     have hq := HI.out.cs.below hb (Nat.le_refl _)
     rw [e0] at hq
     exact ⟨es_at enK_len hq hy.out 0 _ rfl, es_fld enK_len hq hy.out 1 (by decide) _ rfl⟩))
    go_wp2_with fail
    clear hU hR hU2 d0 d1 f20 f21 z20 z21
    obtain ⟨B, hB⟩ : ∃ B, U2.heap.size = B := ⟨_, rfl⟩
    have HB := hid hB
    have HBR := hid (show w.heap.size ≤ B ∧ R < B ∧ Q < B ∧ D < B ∧ G < B ∧ C ≤ B from by have := HU2.out; have := HRw.out; omega)
    have HRB := hid (show wo.heap.size ≤ B from by have := B3.out.size; omega)
    clear hB pG
    have SW := hid (show ElOk WyE 67 1 from WyE_ok (by decide) (by decide))
    go_loopw [11] (fun iv wr => ∃ (m : Nat) (A : Option Addr) (c : Nat), iv = .int .i64 ((m : Nat) : Int) ∧ m ≤ y.x.ws.length ∧ Hid (Mem w wr [(R, [txt y.x.n, .slice A m c], 65), (Q, [txt x.n, .int .i64 x.g.w, .int .i64 x.g.d, .int .i64 x.g.s, .slice A0 x.rm.length c0, .slice A1 x.wk.length c1, .slice A2 x.ps.length c2, .slice A3 x.cl.length c3, .slice A4 k c4, .slice none 0 0, .slice none 0 0, .int .i64 x.w0, .int .i64 x.w1, .int .i64 x.w2, .int .i64 x.w3], 34), (D, [.string ⟨#[]⟩, .int .i64 0, .int .i64 0, .int .i64 0, .slice none 0 0, .slice none 0 0, .slice none 0 0, .slice none 0 0, .slice none 0 0, .slice none 0 0, .slice none 0 0, .int .i64 0, .int .i64 0, .int .i64 0, .int .i64 0], 34), (G, pbc x, 34)]) ∧ Hid (RowQ enW 67 1 (fun z => z.l) WyE ((ws.take m).map (fun z => z.l)) B A m c wr) ∧ Hid (Below wo.heap.size wo wr) ∧ Hid (B ≤ wr.heap.size)) (fun iv _ => y.x.ws.length - (intOf iv).toNat)
    case atStart => exact ⟨0, none, 0, rfl, Nat.zero_le _, K3, hid ⟨[], by simp only [List.take_zero, List.map_nil], rfl, own_none _ _ _ _, fun z hz => by cases hz⟩, B3, hid (Nat.le_of_eq HB.out.symm)⟩
    case round =>
     clear K3 B3 HU2
     obtain ⟨m, A7, c7, rfl, hmm, KI, HV, BI, HSz⟩ := hrel
     have pG := KI.out.cell (b := G) (cs := pbc x) (t := 34) (by simp) (k := 8) rfl
     rw [e0] at pG
     obtain ⟨t0, t1⟩ := Hrow.out _ KI.out.2
     by_cases hlm : m < y.x.ws.length
     · skip
       obtain ⟨ac, u, ec, hacb, hu, hul, hcellu⟩ := Es.get (K := 1) (fun _ => rfl) (by decide) (HWE.out.below KI.out.2 (Nat.le_refl _)) (show m < ws.length from by rw [HWl.out]; exact hlm)
       have m1 : (0 : Int) ≤ (m : Int) := by omega
       have m2 : (m : Int) < y.x.ws.length := by omega
       have w63 : m + 1 ≤ maxLen := by unfold maxLen; omega
       have wby : (m + 1) * 24 ≤ 140737488355328 := by omega
       have Hdu := hid (take_map17 (fun z : WyA => z.l) hu.out)
       obtain ⟨iw, hiw, hzw0, hzw1, hzw2⟩ := info_parts Tryz.inf17_way
       have Hul := hid (show u.l ∈ y.x.ws from HWm.out ▸ List.mem_map.2 ⟨u, hul, rfl⟩)
       have HCu := hid (fun X (hX : Below w.heap.size w X) => r17_table u.l u.a u.c (HBy.out.2 _ Hul.out).1 (HBy.out.2 _ Hul.out).2 X (((HWI.out u hul).below hX (Nat.le_refl _)).more hX.size))
       have Hway := hid (fun X (hb : Below w.heap.size w X) => (show X.cell? (ac.add m) = some (.slice u.a u.l.length u.c) from by
        have hq := HWE.out.below hb (Nat.le_refl _)
        rw [ec] at hq
        have h1 := es_at (K := 1) (fun _ => rfl) hq hu.out 0 _ rfl
        rwa [Nat.mul_one, Nat.add_zero] at h1))
       clear hcellu
       have HS1 := hid (KI.out.drew.sub (l' := [(D, [.string ⟨#[]⟩, .int .i64 0, .int .i64 0, .int .i64 0, .slice none 0 0, .slice none 0 0, .slice none 0 0, .slice none 0 0, .slice none 0 0, .slice none 0 0, .slice none 0 0, .int .i64 0, .int .i64 0, .int .i64 0, .int .i64 0], 34), (G, pbc x, 34)]) (by simp))
       have HS2 := hid (KI.out.drew.sub (l' := [(R, [txt y.x.n, .slice A7 m c7], 65)]) (by simp))
       rw [ec] at Hrow
       go_upto_region 25 with fail
       refine wp_region_L (S := SL (fun X => Mem w X [(D, [.string ⟨#[]⟩, .int .i64 0, .int .i64 0, .int .i64 0, .slice none 0 0, .slice none 0 0, .slice none 0 0, .slice none 0 0, .slice none 0 0, .slice none 0 0, .slice none 0 0, .int .i64 0, .int .i64 0, .int .i64 0, .int .i64 0], 34), (G, pbc x, 34)]) [(15, fun X => Mem w X [(R, [txt y.x.n, .slice A7 m c7], 65)])]) (by kernel_rfl) (SL.one HS1.out HS2.out) (fun hHeld => ?_)
       clear hHeld
       refine takeL 0 130 (.pointer (some ⟨R, 1, none⟩)) rfl rfl (by kernel_rfl) (by kernel_rfl) (by kernel_rfl) (by rfl) (fun _ _ _ h => h) (by kernel_rfl) (fun X hX => by clear hX; first | rfl | go_simp) (SL.one HS1.out HS2.out) ?_
       simp only [pt, List.set]
       refine takeN 1 131 (.slice A7 m c7) 15 (fun X => Mem w X [(R, [txt y.x.n, .slice A7 m c7], 65)]) rfl rfl (by kernel_rfl) (by kernel_rfl) (by kernel_rfl) (by rfl) (by simp) (by kernel_rfl) (by kernel_rfl) (fun _ _ _ h => h) (by kernel_rfl) (fun X hX hY => by have pq := hY.cell (b := R) (cs := [txt y.x.n, .slice A7 m c7]) (t := 65) (by simp) (k := 1) rfl; clear hX hY; go_simp) (SL.one HS1.out HS2.out) ?_
       simp only [pt, List.set]
       refine takeL 2 132 (.pointer (some ⟨G, 8, none⟩)) rfl rfl (by kernel_rfl) (by kernel_rfl) (by kernel_rfl) (by rfl) (fun _ _ _ h => h) (by kernel_rfl) (fun X hX => by clear hX; first | rfl | go_simp) (SL.one HS1.out HS2.out) ?_
       simp only [pt, List.set]
       refine takeL 3 133 (.slice (some ad) x.cs.length x.c4) rfl rfl (by kernel_rfl) (by kernel_rfl) (by kernel_rfl) (by rfl) (fun _ _ _ h => h) (by kernel_rfl) (fun X hX => by have pg := hX.cell (b := G) (cs := pbc x) (t := 34) (by simp) (k := 8) rfl; rw [e0] at pg; clear hX; go_simp) (SL.one HS1.out HS2.out) ?_
       simp only [pt, List.set]
       refine takeL 4 134 (.int .i64 k) rfl rfl (by kernel_rfl) (by kernel_rfl) (by kernel_rfl) (by rfl) (fun _ _ _ h => h) (by kernel_rfl) (fun X hX => by clear hX; first | rfl | go_simp) (SL.one HS1.out HS2.out) ?_
       simp only [pt, List.set]
       refine takeL 5 135 (.pointer (some (ad.add (k * 2)))) rfl rfl (by kernel_rfl) (by kernel_rfl) (by kernel_rfl) (by rfl) (fun _ _ _ h => h) (by kernel_rfl) (fun X hX => by clear hX; first | rfl | go_simp) (SL.one HS1.out HS2.out) ?_
       simp only [pt, List.set]
       refine takeL 6 136 (.pointer (some ⟨(ad.add (k * 2)).block, (ad.add (k * 2)).off + 1, none⟩)) rfl rfl (by kernel_rfl) (by kernel_rfl) (by kernel_rfl) (by rfl) (fun _ _ _ h => h) (by kernel_rfl) (fun X hX => by clear hX; first | rfl | go_simp) (SL.one HS1.out HS2.out) ?_
       simp only [pt, List.set]
       refine takeL 7 137 (.slice (some ac) y.x.ws.length y.c) rfl rfl (by kernel_rfl) (by kernel_rfl) (by kernel_rfl) (by rfl) (fun _ _ _ h => h) (by kernel_rfl) (fun X hX => by obtain ⟨d0, d1⟩ := Hrow.out _ hX.2; clear hX; go_simp) (SL.one HS1.out HS2.out) ?_
       simp only [pt, List.set]
       refine takeL 8 138 (.int .i64 m) rfl rfl (by kernel_rfl) (by kernel_rfl) (by kernel_rfl) (by rfl) (fun _ _ _ h => h) (by kernel_rfl) (fun X hX => by clear hX; first | rfl | go_simp) (SL.one HS1.out HS2.out) ?_
       simp only [pt, List.set]
       refine takeL 9 139 (.pointer (some (ac.add m))) rfl rfl (by kernel_rfl) (by kernel_rfl) (by kernel_rfl) (by rfl) (fun _ _ _ h => h) (by kernel_rfl) (fun X hX => by clear hX; first | rfl | go_simp) (SL.one HS1.out HS2.out) ?_
       simp only [pt, List.set]
       refine takeL 10 140 (.pointer (some (ac.add m))) rfl rfl (by kernel_rfl) (by kernel_rfl) (by kernel_rfl) (by rfl) (fun _ _ _ h => h) (by kernel_rfl) (fun X hX => by clear hX; first | rfl | go_simp) (SL.one HS1.out HS2.out) ?_
       simp only [pt, List.set]
       refine takeL 11 141 (.slice u.a u.l.length u.c) rfl rfl (by kernel_rfl) (by kernel_rfl) (by kernel_rfl) (by rfl) (fun _ _ _ h => h) (by kernel_rfl) (fun X hX => by have d0 := Hway.out _ hX.2; clear hX; go_simp) (SL.one HS1.out HS2.out) ?_
       simp only [pt, List.set]
       refine wpAnyL_ready (rs := [12]) (by kernel_rfl) (by simp) ?_
       refine (AllReadyL.cons rfl (fun KK hK => ?_) AllReadyL.nil)
       simp only [List.getElem_toArray, List.getElem_cons_succ, List.getElem_cons_zero]
       go_simp
       refine (HCu.out _ KI.out.drew.2).mono ?_
       rintro e Y ⟨A8, n8, c8, rfl, hq8, bz⟩
       obtain rfl := (I2Q.read hq8).1
       have K4 := hid (KI.out.drew.next bz)
       have B4 := hid (show Below wr.heap.size wr Y from ((Below.refl _ _).drew).trans bz)
       clear HS1 HS2
       have HS1 := hid (K4.out.sub (l' := [(D, [.string ⟨#[]⟩, .int .i64 0, .int .i64 0, .int .i64 0, .slice none 0 0, .slice none 0 0, .slice none 0 0, .slice none 0 0, .slice none 0 0, .slice none 0 0, .slice none 0 0, .int .i64 0, .int .i64 0, .int .i64 0, .int .i64 0], 34), (G, pbc x, 34)]) (by simp))
       have HS2 := hid (K4.out.sub (l' := [(R, [txt y.x.n, .slice A7 m c7], 65)]) (by simp))
       refine hK.out _ _ (SL.one HS1.out HS2.out) (fun hHeld => ?_)
       clear hK KK hHeld
       try simp only [pt, List.set]
       refine takeL 13 143 (.agg #[.slice A8 u.l.length c8]) rfl rfl (by kernel_rfl) (by kernel_rfl) (by kernel_rfl) (by rfl) (fun _ _ _ h => h) (by kernel_rfl) (fun X hX => by clear hX; first | rfl | go_simp) (SL.one HS1.out HS2.out) ?_
       simp only [pt, List.set]
       obtain ⟨L, U3, hL, hU3, K5, b5⟩ := K4.out.one (enW ⟨u.l, A8, c8⟩) 67
       have B5 := hid (B4.out.trans (b5.mono B4.out.size))
       have HY5 := hid (show WyE B ⟨u.l, A8, c8⟩ U3 from (I2Q_ok _).low _ _ _ _ _ _ ((I2Q_ok _).keep _ _ _ _ _ _ hq8 (Abv.of b5)) (by have := HSz.out; have := B4.out.size; exact HSz.out))
       obtain ⟨zs, hzm, hzl, O, hzE⟩ := (RowQ_ok SW.out _).keep _ _ _ _ _ _ HV.out (Abv.of B5.out)
       have O := hid O
       have HzE := hid hzE
       have hB5 := hid (show B ≤ U3.heap.size from Nat.le_trans HSz.out B5.out.size)
       clear hzE HV hq8 bz HS1 HS2
       have HS1 := hid (K5.out.sub (l' := [(D, [.string ⟨#[]⟩, .int .i64 0, .int .i64 0, .int .i64 0, .slice none 0 0, .slice none 0 0, .slice none 0 0, .slice none 0 0, .slice none 0 0, .slice none 0 0, .slice none 0 0, .int .i64 0, .int .i64 0, .int .i64 0, .int .i64 0], 34), (G, pbc x, 34)]) (by simp))
       have HS2 := hid (K5.out.sub (l' := [(R, [txt y.x.n, .slice A7 m c7], 65)]) (by simp))
       refine wpAnyL_ready (rs := [14]) (by kernel_rfl) (by simp) ?_
       refine (AllReadyL.cons rfl (fun KK hK => ?_) AllReadyL.nil)
       simp only [List.getElem_toArray, List.getElem_cons_succ, List.getElem_cons_zero]
       go_simp
       refine hK.out _ _ (SL.one HS1.out HS2.out) (fun hHeld => ?_)
       clear hK KK hHeld
       try simp only [pt, List.set]
       refine wpAnyL_ready (rs := [15]) (by kernel_rfl) (by simp) ?_
       refine (AllReadyL.cons rfl (fun KK hK => ?_) AllReadyL.nil)
       refine step_append_own rfl (.tmp 131) (.tmp 144) 63 rfl B 67 iw (.agg #[.slice none 0 0]) 1 24 Tryz.underlying63 hiw hzw0 hzw1 hzw2 rfl (by decide) (.slice A7 m c7) _ _ (by rfl) O.out ⟨L, 0, none⟩ 1 1 (enW ⟨u.l, A8, c8⟩) (by rfl) rfl (ob_cells17 (K5.out.at_ (List.mem_cons_self ..))) (one17_Way _) w63 wby hB5.out ?_
       intro v1 w5 hown2 hgrow
       obtain ⟨A9, c9, rfl, hq9⟩ := RowQ.grown (f := fun z : WyA => z.l) SW.out O.out hzm hzl HzE.out HY5.out hown2 hgrow
       have bC := (Below.refl B U3).grown hgrow hB5.out (fun k hk => (O.out.lt k hk).1)
       have K6 := hid ((K5.out.sub (l' := [(R, [txt y.x.n, .slice A7 m c7], 65), (Q, [txt x.n, .int .i64 x.g.w, .int .i64 x.g.d, .int .i64 x.g.s, .slice A0 x.rm.length c0, .slice A1 x.wk.length c1, .slice A2 x.ps.length c2, .slice A3 x.cl.length c3, .slice A4 k c4, .slice none 0 0, .slice none 0 0, .int .i64 x.w0, .int .i64 x.w1, .int .i64 x.w2, .int .i64 x.w3], 34), (D, [.string ⟨#[]⟩, .int .i64 0, .int .i64 0, .int .i64 0, .slice none 0 0, .slice none 0 0, .slice none 0 0, .slice none 0 0, .slice none 0 0, .slice none 0 0, .slice none 0 0, .int .i64 0, .int .i64 0, .int .i64 0, .int .i64 0], 34), (G, pbc x, 34)]) (by simp)).grown17 bC HBR.out.1 (by simp only [List.mem_cons, List.not_mem_nil, or_false]; have := HBR.out; rintro p (rfl | rfl | rfl | rfl) <;> (simp only; omega)))
       clear HS1 HS2
       have HS1 := hid (K6.out.sub (l' := [(D, [.string ⟨#[]⟩, .int .i64 0, .int .i64 0, .int .i64 0, .slice none 0 0, .slice none 0 0, .slice none 0 0, .slice none 0 0, .slice none 0 0, .slice none 0 0, .slice none 0 0, .int .i64 0, .int .i64 0, .int .i64 0, .int .i64 0], 34), (G, pbc x, 34)]) (by simp))
       refine hK.out _ _ (SL.past HS1.out (by kernel_rfl)) (fun hHeld => ?_)
       clear hK KK hHeld
       (try simp only [Act.put]); (try simp only [List.setIfInBounds_toArray])
       refine takeL 16 146 (.pointer (some ⟨R, 1, none⟩)) rfl rfl (by kernel_rfl) (by kernel_rfl) (by kernel_rfl) (by rfl) (fun _ _ _ h => h) (by kernel_rfl) (fun X hX => by clear hX; first | rfl | go_simp) (SL.past HS1.out (by kernel_rfl)) ?_
       (try simp only [Act.put]); (try simp only [List.setIfInBounds_toArray]); (try simp only [List.set_cons_succ, List.set_cons_zero])
       have fq := (K6.out.at_ (b := R) (cs := [txt y.x.n, .slice A7 m c7]) (t := 65) (by simp)).free 1
       have yq := K6.out.cell (b := R) (cs := [txt y.x.n, .slice A7 m c7]) (t := 65) (by simp) (k := 1) rfl
       obtain ⟨U6, hU6⟩ : ∃ X, w5.setCell ⟨R, 1, none⟩ (.slice A9 (m + 1) c9) = X := ⟨_, rfl⟩
       have K7 := hid (show Mem w U6 [(R, [txt y.x.n, .slice A9 (m + 1) c9], 65), (Q, [txt x.n, .int .i64 x.g.w, .int .i64 x.g.d, .int .i64 x.g.s, .slice A0 x.rm.length c0, .slice A1 x.wk.length c1, .slice A2 x.ps.length c2, .slice A3 x.cl.length c3, .slice A4 k c4, .slice none 0 0, .slice none 0 0, .int .i64 x.w0, .int .i64 x.w1, .int .i64 x.w2, .int .i64 x.w3], 34), (D, [.string ⟨#[]⟩, .int .i64 0, .int .i64 0, .int .i64 0, .slice none 0 0, .slice none 0 0, .slice none 0 0, .slice none 0 0, .slice none 0 0, .slice none 0 0, .slice none 0 0, .int .i64 0, .int .i64 0, .int .i64 0, .int .i64 0], 34), (G, pbc x, 34)] from hU6 ▸ K6.out.set HRw.out.1 HRN.out 1 _)
       have hab := AbT.set (b := B) (C := w5.heap.size) w5 (K6.out.at_ (b := R) (cs := [txt y.x.n, .slice A7 m c7]) (t := 65) (by simp)) 1 (.slice A9 (m + 1) c9)
       have HQ7 := hid (show RowQ enW 67 1 (fun z => z.l) WyE ((ws.take (m + 1)).map (fun z => z.l)) B A9 (m + 1) c9 U6 from by rw [Hdu.out]; exact hU6 ▸ RowQ.abt (by decide) (WyE_t (by decide) (by decide)) hq9 hab)
       have B7 := hid (show Below wo.heap.size wo U6 from hU6 ▸ ((BI.out.trans (B5.out.mono BI.out.size)).trans (bC.mono HRB.out)).setCell (p := ⟨R, 1, none⟩) HRr.out _)
       have hgs := bC.size
       clear hown2 hgrow bC hq9 hab
       refine wpAnyL_ready (rs := [17]) (by kernel_rfl) (by simp) ?_
       refine (AllReadyL.cons rfl (fun KK hK => ?_) AllReadyL.nil)
       simp only [List.getElem_toArray, List.getElem_cons_succ, List.getElem_cons_zero]
       go_simp
       refine hK.out _ _ (SL.past (K7.out.sub (l' := [(D, [.string ⟨#[]⟩, .int .i64 0, .int .i64 0, .int .i64 0, .slice none 0 0, .slice none 0 0, .slice none 0 0, .slice none 0 0, .slice none 0 0, .slice none 0 0, .slice none 0 0, .int .i64 0, .int .i64 0, .int .i64 0, .int .i64 0], 34), (G, pbc x, 34)]) (by simp)) (by kernel_rfl)) (fun hHeld => ?_)
       clear hK KK hHeld
       try simp only [pt, List.set]
       refine wpAnyL_done (by kernel_rfl) ?_ _
       go_wp2_with fail
       exact ⟨⟨m + 1, A9, c9, by go_num, by omega, K7, HQ7, B7, hid (by rw [← hU6]; simp only [World.size_setCell]; exact Nat.le_trans hB5.out hgs)⟩, by simp [intOf]; omega⟩
     · obtain rfl : m = y.x.ws.length := by omega
       have m2 : ¬ (y.x.ws.length : Int) < y.x.ws.length := by omega
       have ew : (ws.take y.x.ws.length).map (fun z => z.l) = y.x.ws := by rw [← HWl.out, List.take_length]; exact HWm.out
       rw [ew] at HV
       have HV2 := hid (show CsE C ⟨y.x, A7, c7⟩ wr from (W3Q_ok _).low _ _ _ _ _ _ HV.out HBR.out.2.2.2.2.2)
       obtain ⟨U3, hwq⟩ : ∃ X, X = wr := ⟨_, rfl⟩
       subst hwq
       have q5 := KI.out.cell (b := Q) (cs := [txt x.n, .int .i64 x.g.w, .int .i64 x.g.d, .int .i64 x.g.s, .slice A0 x.rm.length c0, .slice A1 x.wk.length c1, .slice A2 x.ps.length c2, .slice A3 x.cl.length c3, .slice A4 k c4, .slice none 0 0, .slice none 0 0, .int .i64 x.w0, .int .i64 x.w1, .int .i64 x.w2, .int .i64 x.w3]) (t := 34) (by simp) (k := 8) rfl
       have r50 := KI.out.cell (b := R) (cs := [txt y.x.n, .slice A7 y.x.ws.length c7]) (t := 65) (by simp) (k := 0) rfl
       have r51 := KI.out.cell (b := R) (cs := [txt y.x.n, .slice A7 y.x.ws.length c7]) (t := 65) (by simp) (k := 1) rfl
       have K5 := hid (show Mem w U3 [(R, enK ⟨y.x, A7, c7⟩, 65), (Q, [txt x.n, .int .i64 x.g.w, .int .i64 x.g.d, .int .i64 x.g.s, .slice A0 x.rm.length c0, .slice A1 x.wk.length c1, .slice A2 x.ps.length c2, .slice A3 x.cl.length c3, .slice A4 k c4, .slice none 0 0, .slice none 0 0, .int .i64 x.w0, .int .i64 x.w1, .int .i64 x.w2, .int .i64 x.w3], 34), (D, [.string ⟨#[]⟩, .int .i64 0, .int .i64 0, .int .i64 0, .slice none 0 0, .slice none 0 0, .slice none 0 0, .slice none 0 0, .slice none 0 0, .slice none 0 0, .slice none 0 0, .int .i64 0, .int .i64 0, .int .i64 0, .int .i64 0], 34), (G, pbc x, 34)] from KI.out)
       obtain ⟨zs, hzm, hzl, O, hzE⟩ := (RowQ_ok SO.out _).keep _ _ _ _ _ _ HQ.out (Abv.of BI.out)
       have O := hid O
       have HzE := hid hzE
       have hC5 := hid (show C ≤ U3.heap.size from Nat.le_trans hCwr.out BI.out.size)
       clear hzE HQ
       go_wp2_with (at_builtin; refine wpList_append_own _ rfl _ _ 28 rfl C 65 i0 (.agg #[.string ⟨#[]⟩, .slice none 0 0]) 2 40 Tryz.underlying28 hi0 hz0 hz1 hz2 rfl (by decide) _ _ _ rfl (O.out.alloc _) ⟨_, 0, none⟩ 1 1 (enK (⟨y.x, A7, c7⟩)) rfl rfl (elit_get _ _ _) (one17_Course _) h63 hby (le_alloc hC5.out _) ?_; intro v1 w5 hown2 hgrow _; have bl := below_alloc U3 (.cells (enK (⟨y.x, A7, c7⟩)).toArray 65); obtain ⟨A9, c9, rfl, hq9⟩ := RowQ.grown (f := fun z : CsA => z.x) SO.out (O.out.alloc _) hzm hzl (fun z hz => SO.out.keep _ _ _ _ (HzE.out z hz) (Abv.of bl)) (SO.out.keep _ _ _ _ HV2.out (Abv.of bl)) hown2 hgrow; have bC := (bl.mono hC5.out).trans ((Below.refl C _).grown hgrow (le_alloc hC5.out _) (fun k hk => (O.out.lt k hk).1)); have K6 := hid ((K5.out.sub (l' := [(Q, [txt x.n, .int .i64 x.g.w, .int .i64 x.g.d, .int .i64 x.g.s, .slice A0 x.rm.length c0, .slice A1 x.wk.length c1, .slice A2 x.ps.length c2, .slice A3 x.cl.length c3, .slice A4 k c4, .slice none 0 0, .slice none 0 0, .int .i64 x.w0, .int .i64 x.w1, .int .i64 x.w2, .int .i64 x.w3], 34), (D, [.string ⟨#[]⟩, .int .i64 0, .int .i64 0, .int .i64 0, .slice none 0 0, .slice none 0 0, .slice none 0 0, .slice none 0 0, .slice none 0 0, .slice none 0 0, .slice none 0 0, .int .i64 0, .int .i64 0, .int .i64 0, .int .i64 0], 34), (G, pbc x, 34)]) (by simp)).grown17 bC HGC.out.1 (by simp only [List.mem_cons, List.not_mem_nil, or_false]; have := HGC.out; rintro p (rfl | rfl | rfl) <;> (simp only; omega))); have fq := (K6.out.at_ (b := Q) (cs := [txt x.n, .int .i64 x.g.w, .int .i64 x.g.d, .int .i64 x.g.s, .slice A0 x.rm.length c0, .slice A1 x.wk.length c1, .slice A2 x.ps.length c2, .slice A3 x.cl.length c3, .slice A4 k c4, .slice none 0 0, .slice none 0 0, .int .i64 x.w0, .int .i64 x.w1, .int .i64 x.w2, .int .i64 x.w3]) (t := 34) (by simp)).free 8; have yq := K6.out.cell (b := Q) (cs := [txt x.n, .int .i64 x.g.w, .int .i64 x.g.d, .int .i64 x.g.s, .slice A0 x.rm.length c0, .slice A1 x.wk.length c1, .slice A2 x.ps.length c2, .slice A3 x.cl.length c3, .slice A4 k c4, .slice none 0 0, .slice none 0 0, .int .i64 x.w0, .int .i64 x.w1, .int .i64 x.w2, .int .i64 x.w3]) (t := 34) (by simp) (k := 8) rfl; obtain ⟨U6, hU6⟩ : ∃ X, w5.setCell ⟨Q, 8, none⟩ (.slice A9 (k + 1) c9) = X := ⟨_, rfl⟩; have K7 := hid (show Mem w U6 [(Q, [txt x.n, .int .i64 x.g.w, .int .i64 x.g.d, .int .i64 x.g.s, .slice A0 x.rm.length c0, .slice A1 x.wk.length c1, .slice A2 x.ps.length c2, .slice A3 x.cl.length c3, .slice A9 (k + 1) c9, .slice none 0 0, .slice none 0 0, .int .i64 x.w0, .int .i64 x.w1, .int .i64 x.w2, .int .i64 x.w3], 34), (D, [.string ⟨#[]⟩, .int .i64 0, .int .i64 0, .int .i64 0, .slice none 0 0, .slice none 0 0, .slice none 0 0, .slice none 0 0, .slice none 0 0, .slice none 0 0, .slice none 0 0, .int .i64 0, .int .i64 0, .int .i64 0, .int .i64 0], 34), (G, pbc x, 34)] from hU6 ▸ K6.out.set HGQ.out.2.2.1 HNE.out 8 _); have hab := AbT.set (b := w.heap.size) (C := w5.heap.size) w5 (K6.out.at_ (b := Q) (cs := [txt x.n, .int .i64 x.g.w, .int .i64 x.g.d, .int .i64 x.g.s, .slice A0 x.rm.length c0, .slice A1 x.wk.length c1, .slice A2 x.ps.length c2, .slice A3 x.cl.length c3, .slice A4 k c4, .slice none 0 0, .slice none 0 0, .int .i64 x.w0, .int .i64 x.w1, .int .i64 x.w2, .int .i64 x.w3]) (t := 34) (by simp)) 8 (.slice A9 (k + 1) c9); have HQ7 := hid (show RowQ enK 65 2 (fun z => z.x) CsE ((x.cs.take (k + 1)).map (fun z => z.x)) C A9 (k + 1) c9 U6 from by rw [Hds.out]; exact hU6 ▸ RowQ.abt (by decide) (CsE_t (by decide) (by decide) (by decide)) hq9 (hab.up HGC.out.1)); have hCw := HC.out; have HT7 := hid (show AbT 34 w.heap.size w0.heap.size w0 U6 from (HT.out.trans (AbT.of ((BI.out.mono (Nat.le_trans (Nat.le_of_eq hCw) hCwr.out)).trans (bC.mono (Nat.le_of_eq hCw))))).trans (hU6 ▸ hab.less (by have := bC.size; have := hC5.out; omega))); clear hown2 hgrow bl bC hq9 hab hCw)
       exact ⟨⟨k + 1, A9, c9, by go_num, by omega, K7, HQ7, HT7⟩, by simp [intOf]; omega⟩
  · obtain rfl : k = x.cs.length := by omega
    have aH := AH.out
    clear AH
    have b2 : ¬ (x.cs.length : Int) < x.cs.length := by omega
    rw [List.take_length] at HQ
    replace HF1 := hid (RowQ.abt (t := 34) (by decide) (OwE_t (by decide)) HF1.out HT.out)
    replace HF0 := hid (RowQ.abt (t := 34) (by decide) (OwE_t (by decide)) HF0.out HT.out)
    replace HF2 := hid (RowQ.abt (t := 34) (by decide) (OwE_t (by decide)) HF2.out HT.out)
    replace HF3 := hid (RowQ.abt (t := 34) (by decide) (ClE_t (by decide) (by decide) (by decide)) HF3.out HT.out)
    have HF4 := hid ((RowQ_ok SO.out _).low _ _ _ _ _ _ HQ.out HGC.out.1)
    clear HQ HT HC HGC hCwr SO
    have KQ4 := KM
    clear KM
    obtain ⟨wl4, hwl⟩ : ∃ X, X = wr := ⟨_, rfl⟩
    subst hwl
    obtain ⟨C, hC⟩ : ∃ C, wl4.heap.size = C := ⟨_, rfl⟩
    have HC := hid hC
    have HGC := hid (show w.heap.size ≤ C ∧ G < C ∧ D < C ∧ Q < C from by
     have h1 := (KQ4.out.at_ (b := G) (cs := pbc x) (t := 34) (by simp)).lt
     have h2 := (KQ4.out.at_ (b := D) (cs := [.string ⟨#[]⟩, .int .i64 0, .int .i64 0, .int .i64 0, .slice none 0 0, .slice none 0 0, .slice none 0 0, .slice none 0 0, .slice none 0 0, .slice none 0 0, .slice none 0 0, .int .i64 0, .int .i64 0, .int .i64 0, .int .i64 0]) (t := 34) (by simp)).lt
     have h3 := (KQ4.out.at_ (b := Q) (cs := [txt x.n, .int .i64 x.g.w, .int .i64 x.g.d, .int .i64 x.g.s, .slice A0 x.rm.length c0, .slice A1 x.wk.length c1, .slice A2 x.ps.length c2, .slice A3 x.cl.length c3, .slice A4 x.cs.length c4, .slice none 0 0, .slice none 0 0, .int .i64 x.w0, .int .i64 x.w1, .int .i64 x.w2, .int .i64 x.w3]) (t := 34) (by simp)).lt
     have h4 := KQ4.out.2.size
     omega)
    clear hC
    have SO := hid (show ElOk StE 70 2 from OwE_ok (by decide))
    go_wp2_with fail
    clear pG hlt hk b2
    rename_i a1 Kx a2
    clear a1
    try clear aH
    have AH := hid a2
    clear a2
    go_loopw [12] (fun iv wr => ∃ (k : Nat) (A : Option Addr) (c : Nat), iv = .int .i64 ((k : Nat) : Int) ∧ k ≤ x.st.length ∧ Hid (Mem w wr [(Q, [txt x.n, .int .i64 x.g.w, .int .i64 x.g.d, .int .i64 x.g.s, .slice A0 x.rm.length c0, .slice A1 x.wk.length c1, .slice A2 x.ps.length c2, .slice A3 x.cl.length c3, .slice A4 x.cs.length c4, .slice A k c, .slice none 0 0, .int .i64 x.w0, .int .i64 x.w1, .int .i64 x.w2, .int .i64 x.w3], 34), (D, [.string ⟨#[]⟩, .int .i64 0, .int .i64 0, .int .i64 0, .slice none 0 0, .slice none 0 0, .slice none 0 0, .slice none 0 0, .slice none 0 0, .slice none 0 0, .slice none 0 0, .int .i64 0, .int .i64 0, .int .i64 0, .int .i64 0], 34), (G, pbc x, 34)]) ∧ Hid (RowQ enS 70 2 (fun z => z.x) StE ((x.st.take k).map (fun z => z.x)) C A k c wr) ∧ Hid (AbT 34 w.heap.size wl4.heap.size wl4 wr)) (fun iv _ => x.st.length - (intOf iv).toNat)
    case atStart => exact ⟨0, none, 0, rfl, Nat.zero_le _, KQ4, hid ⟨[], by simp only [List.take_zero, List.map_nil], rfl, own_none _ _ _ _, fun z hz => by cases hz⟩, hid (AbT.refl _ _ _ _)⟩
    case round =>
     clear KQ4
     obtain ⟨k, A5, c5, rfl, hk, KM, HQ, HT⟩ := hrel
     have hCwr := hid (show C ≤ wr.heap.size from by have := HT.out.1; have := HC.out; omega)
     have pG := KM.out.cell (b := G) (cs := pbc x) (t := 34) (by simp) (k := 9) rfl
     by_cases hlt : k < x.st.length
     · skip
       obtain ⟨ad, y, e0, hadb, hy, hyl, hcell⟩ := Es.get (K := 2) enS_len (by decide) (HI.out.st.below KM.out.2 (Nat.le_refl _)) hlt
       rw [e0] at pG
       have b1 : (0 : Int) ≤ (k : Int) := by omega
       have b2 : (k : Int) < x.st.length := by omega
       have h63 : k + 1 ≤ maxLen := by unfold maxLen; omega
       have hby : (k + 1) * 40 ≤ 140737488355328 := by omega
       have Hds := hid (take_map17 (fun z : StA => z.x) hy.out)
       obtain ⟨i0, hi0, hz0, hz1, hz2⟩ := info_parts Tryz.inf17_student
       have Hrow := hid (fun X (hb : Below w.heap.size w X) => (show X.cell? (ad.add (k * 2)) = some (txt y.x.n) ∧ X.cell? ⟨(ad.add (k * 2)).block, (ad.add (k * 2)).off + 1, none⟩ = some (.slice y.a y.x.l.length y.c) from by
        have hq := HI.out.st.below hb (Nat.le_refl _)
        rw [e0] at hq
        exact ⟨es_at enS_len hq hy.out 0 _ rfl, es_fld enS_len hq hy.out 1 (by decide) _ rfl⟩))
       have HCy := hid (HCst.out y hyl)
       clear hcell
       go_upto_region 30 with fail
       have HS1 := hid (KM.out.drew.sub (l' := [(D, [.string ⟨#[]⟩, .int .i64 0, .int .i64 0, .int .i64 0, .slice none 0 0, .slice none 0 0, .slice none 0 0, .slice none 0 0, .slice none 0 0, .slice none 0 0, .slice none 0 0, .int .i64 0, .int .i64 0, .int .i64 0, .int .i64 0], 34), (G, pbc x, 34)]) (by simp))
       have HS2 := hid (KM.out.drew.sub (l' := [(Q, [txt x.n, .int .i64 x.g.w, .int .i64 x.g.d, .int .i64 x.g.s, .slice A0 x.rm.length c0, .slice A1 x.wk.length c1, .slice A2 x.ps.length c2, .slice A3 x.cl.length c3, .slice A4 x.cs.length c4, .slice A5 k c5, .slice none 0 0, .int .i64 x.w0, .int .i64 x.w1, .int .i64 x.w2, .int .i64 x.w3], 34)]) (by simp))
       refine wp_region_L (S := SL (fun X => Mem w X [(D, [.string ⟨#[]⟩, .int .i64 0, .int .i64 0, .int .i64 0, .slice none 0 0, .slice none 0 0, .slice none 0 0, .slice none 0 0, .slice none 0 0, .slice none 0 0, .slice none 0 0, .int .i64 0, .int .i64 0, .int .i64 0, .int .i64 0], 34), (G, pbc x, 34)]) [(17, fun X => Mem w X [(Q, [txt x.n, .int .i64 x.g.w, .int .i64 x.g.d, .int .i64 x.g.s, .slice A0 x.rm.length c0, .slice A1 x.wk.length c1, .slice A2 x.ps.length c2, .slice A3 x.cl.length c3, .slice A4 x.cs.length c4, .slice A5 k c5, .slice none 0 0, .int .i64 x.w0, .int .i64 x.w1, .int .i64 x.w2, .int .i64 x.w3], 34)])]) (by kernel_rfl) (SL.one HS1.out HS2.out) (fun hHeld => ?_)
       clear hHeld
       refine takeL 0 160 (.pointer (some ⟨Q, 9, none⟩)) rfl rfl (by kernel_rfl) (by kernel_rfl) (by kernel_rfl) (by rfl) (fun _ _ _ h => h) (by kernel_rfl) (fun X hX => by clear hX; first | rfl | go_simp) (SL.one HS1.out HS2.out) ?_
       simp only [pt, List.set]
       refine takeN 1 161 (.slice A5 k c5) 17 (fun X => Mem w X [(Q, [txt x.n, .int .i64 x.g.w, .int .i64 x.g.d, .int .i64 x.g.s, .slice A0 x.rm.length c0, .slice A1 x.wk.length c1, .slice A2 x.ps.length c2, .slice A3 x.cl.length c3, .slice A4 x.cs.length c4, .slice A5 k c5, .slice none 0 0, .int .i64 x.w0, .int .i64 x.w1, .int .i64 x.w2, .int .i64 x.w3], 34)]) rfl rfl (by kernel_rfl) (by kernel_rfl) (by kernel_rfl) (by rfl) (by simp) (by kernel_rfl) (by kernel_rfl) (fun _ _ _ h => h) (by kernel_rfl) (fun X hX hY => by have pq := hY.cell (b := Q) (cs := [txt x.n, .int .i64 x.g.w, .int .i64 x.g.d, .int .i64 x.g.s, .slice A0 x.rm.length c0, .slice A1 x.wk.length c1, .slice A2 x.ps.length c2, .slice A3 x.cl.length c3, .slice A4 x.cs.length c4, .slice A5 k c5, .slice none 0 0, .int .i64 x.w0, .int .i64 x.w1, .int .i64 x.w2, .int .i64 x.w3]) (t := 34) (by simp) (k := 9) rfl; clear hX hY; go_simp) (SL.one HS1.out HS2.out) ?_
       simp only [pt, List.set]
       refine takeL 2 162 (.pointer (some ⟨G, 9, none⟩)) rfl rfl (by kernel_rfl) (by kernel_rfl) (by kernel_rfl) (by rfl) (fun _ _ _ h => h) (by kernel_rfl) (fun X hX => by clear hX; first | rfl | go_simp) (SL.one HS1.out HS2.out) ?_
       simp only [pt, List.set]
       refine takeL 3 163 (.slice (some ad) x.st.length x.c5) rfl rfl (by kernel_rfl) (by kernel_rfl) (by kernel_rfl) (by rfl) (fun _ _ _ h => h) (by kernel_rfl) (fun X hX => by have pg := hX.cell (b := G) (cs := pbc x) (t := 34) (by simp) (k := 9) rfl; rw [e0] at pg; clear hX; go_simp) (SL.one HS1.out HS2.out) ?_
       simp only [pt, List.set]
       refine takeL 4 164 (.int .i64 k) rfl rfl (by kernel_rfl) (by kernel_rfl) (by kernel_rfl) (by rfl) (fun _ _ _ h => h) (by kernel_rfl) (fun X hX => by clear hX; first | rfl | go_simp) (SL.one HS1.out HS2.out) ?_
       simp only [pt, List.set]
       refine takeL 5 165 (.pointer (some (ad.add (k * 2)))) rfl rfl (by kernel_rfl) (by kernel_rfl) (by kernel_rfl) (by rfl) (fun _ _ _ h => h) (by kernel_rfl) (fun X hX => by clear hX; first | rfl | go_simp) (SL.one HS1.out HS2.out) ?_
       simp only [pt, List.set]
       refine takeL 6 166 (.pointer (some (ad.add (k * 2)))) rfl rfl (by kernel_rfl) (by kernel_rfl) (by kernel_rfl) (by rfl) (fun _ _ _ h => h) (by kernel_rfl) (fun X hX => by clear hX; first | rfl | go_simp) (SL.one HS1.out HS2.out) ?_
       simp only [pt, List.set]
       refine takeL 7 167 (txt y.x.n) rfl rfl (by kernel_rfl) (by kernel_rfl) (by kernel_rfl) (by rfl) (fun _ _ _ h => h) (by kernel_rfl) (fun X hX => by obtain ⟨d0, d1⟩ := Hrow.out _ hX.2; clear hX; go_simp) (SL.one HS1.out HS2.out) ?_
       simp only [pt, List.set]
       refine takeL 8 168 (.pointer (some ⟨G, 9, none⟩)) rfl rfl (by kernel_rfl) (by kernel_rfl) (by kernel_rfl) (by rfl) (fun _ _ _ h => h) (by kernel_rfl) (fun X hX => by clear hX; first | rfl | go_simp) (SL.one HS1.out HS2.out) ?_
       simp only [pt, List.set]
       refine takeL 9 169 (.slice (some ad) x.st.length x.c5) rfl rfl (by kernel_rfl) (by kernel_rfl) (by kernel_rfl) (by rfl) (fun _ _ _ h => h) (by kernel_rfl) (fun X hX => by have pg := hX.cell (b := G) (cs := pbc x) (t := 34) (by simp) (k := 9) rfl; rw [e0] at pg; clear hX; go_simp) (SL.one HS1.out HS2.out) ?_
       simp only [pt, List.set]
       refine takeL 10 170 (.int .i64 k) rfl rfl (by kernel_rfl) (by kernel_rfl) (by kernel_rfl) (by rfl) (fun _ _ _ h => h) (by kernel_rfl) (fun X hX => by clear hX; first | rfl | go_simp) (SL.one HS1.out HS2.out) ?_
       simp only [pt, List.set]
       refine takeL 11 171 (.pointer (some (ad.add (k * 2)))) rfl rfl (by kernel_rfl) (by kernel_rfl) (by kernel_rfl) (by rfl) (fun _ _ _ h => h) (by kernel_rfl) (fun X hX => by clear hX; first | rfl | go_simp) (SL.one HS1.out HS2.out) ?_
       simp only [pt, List.set]
       refine takeL 12 172 (.pointer (some ⟨(ad.add (k * 2)).block, (ad.add (k * 2)).off + 1, none⟩)) rfl rfl (by kernel_rfl) (by kernel_rfl) (by kernel_rfl) (by rfl) (fun _ _ _ h => h) (by kernel_rfl) (fun X hX => by clear hX; first | rfl | go_simp) (SL.one HS1.out HS2.out) ?_
       simp only [pt, List.set]
       refine takeL 13 173 (.slice y.a y.x.l.length y.c) rfl rfl (by kernel_rfl) (by kernel_rfl) (by kernel_rfl) (by rfl) (fun _ _ _ h => h) (by kernel_rfl) (fun X hX => by obtain ⟨d0, d1⟩ := Hrow.out _ hX.2; clear hX; go_simp) (SL.one HS1.out HS2.out) ?_
       simp only [pt, List.set]
       refine wpAnyL_ready (rs := [14]) (by kernel_rfl) (by simp) ?_
       refine (AllReadyL.cons rfl (fun KK hK => ?_) AllReadyL.nil)
       simp only [List.getElem_toArray, List.getElem_cons_succ, List.getElem_cons_zero]
       go_simp
       refine (HCy.out _ KM.out.drew.2).mono ?_
       rintro e Y ⟨A8, n8, c8, rfl, ⟨rfl, ho⟩, bz⟩
       have K4 := hid (KM.out.drew.next bz)
       have B4 := hid (show Below wr.heap.size wr Y from ((Below.refl _ _).drew).trans bz)
       clear HS1 HS2
       have HS1 := hid (K4.out.sub (l' := [(D, [.string ⟨#[]⟩, .int .i64 0, .int .i64 0, .int .i64 0, .slice none 0 0, .slice none 0 0, .slice none 0 0, .slice none 0 0, .slice none 0 0, .slice none 0 0, .slice none 0 0, .int .i64 0, .int .i64 0, .int .i64 0, .int .i64 0], 34), (G, pbc x, 34)]) (by simp))
       have HS2 := hid (K4.out.sub (l' := [(Q, [txt x.n, .int .i64 x.g.w, .int .i64 x.g.d, .int .i64 x.g.s, .slice A0 x.rm.length c0, .slice A1 x.wk.length c1, .slice A2 x.ps.length c2, .slice A3 x.cl.length c3, .slice A4 x.cs.length c4, .slice A5 k c5, .slice none 0 0, .int .i64 x.w0, .int .i64 x.w1, .int .i64 x.w2, .int .i64 x.w3], 34)]) (by simp))
       refine hK.out _ _ (SL.one HS1.out HS2.out) (fun hHeld => ?_)
       clear hK KK hHeld
       try simp only [pt, List.set]
       refine takeL 15 175 (.agg #[txt y.x.n, .slice A8 y.x.l.length c8]) rfl rfl (by kernel_rfl) (by kernel_rfl) (by kernel_rfl) (by rfl) (fun _ _ _ h => h) (by kernel_rfl) (fun X hX => by clear hX; first | rfl | go_simp) (SL.one HS1.out HS2.out) ?_
       simp only [pt, List.set]
       obtain ⟨L, U3, hL, hU3, K5, b5⟩ := K4.out.one (enS (⟨y.x, A8, c8⟩)) 70
       have B5 := hid (B4.out.trans (b5.mono B4.out.size))
       have HY5 := hid (show StE C ⟨y.x, A8, c8⟩ U3 from own_mono (own_below ho b5) (Nat.le_trans hCwr.out (by have := B4.out.size; exact Nat.le_refl _)))
       obtain ⟨zs, hzm, hzl, O, hzE⟩ := (RowQ_ok SO.out _).keep _ _ _ _ _ _ HQ.out (Abv.of B5.out)
       have O := hid O
       have HzE := hid hzE
       have hC5 := hid (show C ≤ U3.heap.size from Nat.le_trans hCwr.out B5.out.size)
       clear hzE HQ ho bz HS1 HS2
       have HS1 := hid (K5.out.sub (l' := [(D, [.string ⟨#[]⟩, .int .i64 0, .int .i64 0, .int .i64 0, .slice none 0 0, .slice none 0 0, .slice none 0 0, .slice none 0 0, .slice none 0 0, .slice none 0 0, .slice none 0 0, .int .i64 0, .int .i64 0, .int .i64 0, .int .i64 0], 34), (G, pbc x, 34)]) (by simp))
       have HS2 := hid (K5.out.sub (l' := [(Q, [txt x.n, .int .i64 x.g.w, .int .i64 x.g.d, .int .i64 x.g.s, .slice A0 x.rm.length c0, .slice A1 x.wk.length c1, .slice A2 x.ps.length c2, .slice A3 x.cl.length c3, .slice A4 x.cs.length c4, .slice A5 k c5, .slice none 0 0, .int .i64 x.w0, .int .i64 x.w1, .int .i64 x.w2, .int .i64 x.w3], 34)]) (by simp))
       refine wpAnyL_ready (rs := [16]) (by kernel_rfl) (by simp) ?_
       refine (AllReadyL.cons rfl (fun KK hK => ?_) AllReadyL.nil)
       simp only [List.getElem_toArray, List.getElem_cons_succ, List.getElem_cons_zero]
       go_simp
       refine hK.out _ _ (SL.one HS1.out HS2.out) (fun hHeld => ?_)
       clear hK KK hHeld
       try simp only [pt, List.set]
       refine wpAnyL_ready (rs := [17]) (by kernel_rfl) (by simp) ?_
       refine (AllReadyL.cons rfl (fun KK hK => ?_) AllReadyL.nil)
       refine step_append_own rfl (.tmp 161) (.tmp 176) 29 rfl C 70 i0 (.agg #[.string ⟨#[]⟩, .slice none 0 0]) 2 40 Tryz.underlying29 hi0 hz0 hz1 hz2 rfl (by decide) (.slice A5 k c5) _ _ (by rfl) O.out ⟨L, 0, none⟩ 1 1 (enS (⟨y.x, A8, c8⟩)) (by rfl) rfl (ob_cells17 (K5.out.at_ (List.mem_cons_self ..))) (one17_Student _) h63 hby hC5.out ?_
       intro v1 w5 hown2 hgrow
       obtain ⟨A9, c9, rfl, hq9⟩ := RowQ.grown (f := fun z : StA => z.x) SO.out O.out hzm hzl HzE.out HY5.out hown2 hgrow
       have bC := (Below.refl C U3).grown hgrow hC5.out (fun k hk => (O.out.lt k hk).1)
       have K6 := hid ((K5.out.sub (l' := [(Q, [txt x.n, .int .i64 x.g.w, .int .i64 x.g.d, .int .i64 x.g.s, .slice A0 x.rm.length c0, .slice A1 x.wk.length c1, .slice A2 x.ps.length c2, .slice A3 x.cl.length c3, .slice A4 x.cs.length c4, .slice A5 k c5, .slice none 0 0, .int .i64 x.w0, .int .i64 x.w1, .int .i64 x.w2, .int .i64 x.w3], 34), (D, [.string ⟨#[]⟩, .int .i64 0, .int .i64 0, .int .i64 0, .slice none 0 0, .slice none 0 0, .slice none 0 0, .slice none 0 0, .slice none 0 0, .slice none 0 0, .slice none 0 0, .int .i64 0, .int .i64 0, .int .i64 0, .int .i64 0], 34), (G, pbc x, 34)]) (by simp)).grown17 bC HGC.out.1 (by simp only [List.mem_cons, List.not_mem_nil, or_false]; have := HGC.out; rintro p (rfl | rfl | rfl) <;> (simp only; omega)))
       clear HS1 HS2
       have HS1 := hid (K6.out.sub (l' := [(D, [.string ⟨#[]⟩, .int .i64 0, .int .i64 0, .int .i64 0, .slice none 0 0, .slice none 0 0, .slice none 0 0, .slice none 0 0, .slice none 0 0, .slice none 0 0, .slice none 0 0, .int .i64 0, .int .i64 0, .int .i64 0, .int .i64 0], 34), (G, pbc x, 34)]) (by simp))
       refine hK.out _ _ (SL.past HS1.out (by kernel_rfl)) (fun hHeld => ?_)
       clear hK KK hHeld
       try simp only [Act.put, List.setIfInBounds_toArray]
       refine takeL 18 178 (.pointer (some ⟨Q, 9, none⟩)) rfl rfl (by kernel_rfl) (by kernel_rfl) (by kernel_rfl) (by rfl) (fun _ _ _ h => h) (by kernel_rfl) (fun X hX => by clear hX; first | rfl | go_simp) (SL.past HS1.out (by kernel_rfl)) ?_
       simp only [Act.put]
       have fq := (K6.out.at_ (b := Q) (cs := [txt x.n, .int .i64 x.g.w, .int .i64 x.g.d, .int .i64 x.g.s, .slice A0 x.rm.length c0, .slice A1 x.wk.length c1, .slice A2 x.ps.length c2, .slice A3 x.cl.length c3, .slice A4 x.cs.length c4, .slice A5 k c5, .slice none 0 0, .int .i64 x.w0, .int .i64 x.w1, .int .i64 x.w2, .int .i64 x.w3]) (t := 34) (by simp)).free 9
       have yq := K6.out.cell (b := Q) (cs := [txt x.n, .int .i64 x.g.w, .int .i64 x.g.d, .int .i64 x.g.s, .slice A0 x.rm.length c0, .slice A1 x.wk.length c1, .slice A2 x.ps.length c2, .slice A3 x.cl.length c3, .slice A4 x.cs.length c4, .slice A5 k c5, .slice none 0 0, .int .i64 x.w0, .int .i64 x.w1, .int .i64 x.w2, .int .i64 x.w3]) (t := 34) (by simp) (k := 9) rfl
       obtain ⟨U6, hU6⟩ : ∃ X, w5.setCell ⟨Q, 9, none⟩ (.slice A9 (k + 1) c9) = X := ⟨_, rfl⟩
       have K7 := hid (show Mem w U6 [(Q, [txt x.n, .int .i64 x.g.w, .int .i64 x.g.d, .int .i64 x.g.s, .slice A0 x.rm.length c0, .slice A1 x.wk.length c1, .slice A2 x.ps.length c2, .slice A3 x.cl.length c3, .slice A4 x.cs.length c4, .slice A9 (k + 1) c9, .slice none 0 0, .int .i64 x.w0, .int .i64 x.w1, .int .i64 x.w2, .int .i64 x.w3], 34), (D, [.string ⟨#[]⟩, .int .i64 0, .int .i64 0, .int .i64 0, .slice none 0 0, .slice none 0 0, .slice none 0 0, .slice none 0 0, .slice none 0 0, .slice none 0 0, .slice none 0 0, .int .i64 0, .int .i64 0, .int .i64 0, .int .i64 0], 34), (G, pbc x, 34)] from hU6 ▸ K6.out.set HGQ.out.2.2.1 HNE.out 9 _)
       have hab := AbT.set (b := w.heap.size) (C := w5.heap.size) w5 (K6.out.at_ (b := Q) (cs := [txt x.n, .int .i64 x.g.w, .int .i64 x.g.d, .int .i64 x.g.s, .slice A0 x.rm.length c0, .slice A1 x.wk.length c1, .slice A2 x.ps.length c2, .slice A3 x.cl.length c3, .slice A4 x.cs.length c4, .slice A5 k c5, .slice none 0 0, .int .i64 x.w0, .int .i64 x.w1, .int .i64 x.w2, .int .i64 x.w3]) (t := 34) (by simp)) 9 (.slice A9 (k + 1) c9)
       have HQ7 := hid (show RowQ enS 70 2 (fun z => z.x) StE ((x.st.take (k + 1)).map (fun z => z.x)) C A9 (k + 1) c9 U6 from by rw [Hds.out]; exact hU6 ▸ RowQ.abt (by decide) (OwE_t (by decide)) hq9 (hab.up HGC.out.1))
       have hCw := HC.out
       have HT7 := hid (show AbT 34 w.heap.size wl4.heap.size wl4 U6 from (HT.out.trans (AbT.of ((B5.out.mono (Nat.le_trans (Nat.le_of_eq hCw) hCwr.out)).trans (bC.mono (Nat.le_of_eq hCw))))).trans (hU6 ▸ hab.less (by have := bC.size; have := hC5.out; omega)))
       clear hown2 hgrow bC hq9 hab hCw
       refine wpAnyL_ready (rs := [19]) (by kernel_rfl) (by simp) ?_
       refine (AllReadyL.cons rfl (fun KK hK => ?_) AllReadyL.nil)
       simp only [List.getElem_toArray, List.getElem_cons_succ, List.getElem_cons_zero]
       go_simp
       refine hK.out _ _ (SL.past (K7.out.sub (l' := [(D, [.string ⟨#[]⟩, .int .i64 0, .int .i64 0, .int .i64 0, .slice none 0 0, .slice none 0 0, .slice none 0 0, .slice none 0 0, .slice none 0 0, .slice none 0 0, .slice none 0 0, .int .i64 0, .int .i64 0, .int .i64 0, .int .i64 0], 34), (G, pbc x, 34)]) (by simp)) (by kernel_rfl)) (fun hHeld => ?_)
       clear hK KK hHeld
       try simp only [pt, List.set]
       refine wpAnyL_done (by kernel_rfl) ?_ _
       go_wp2_with fail
       exact ⟨⟨k + 1, A9, c9, by go_num, by omega, K7, HQ7, HT7⟩, by simp [intOf]; omega⟩
     · obtain rfl : k = x.st.length := by omega
       have aH := AH.out
       clear AH
       have b2 : ¬ (x.st.length : Int) < x.st.length := by omega
       rw [List.take_length] at HQ
       replace HF1 := hid (RowQ.abt (t := 34) (by decide) (OwE_t (by decide)) HF1.out HT.out)
       replace HF0 := hid (RowQ.abt (t := 34) (by decide) (OwE_t (by decide)) HF0.out HT.out)
       replace HF2 := hid (RowQ.abt (t := 34) (by decide) (OwE_t (by decide)) HF2.out HT.out)
       replace HF3 := hid (RowQ.abt (t := 34) (by decide) (ClE_t (by decide) (by decide) (by decide)) HF3.out HT.out)
       replace HF4 := hid (RowQ.abt (t := 34) (by decide) (CsE_t (by decide) (by decide) (by decide)) HF4.out HT.out)
       have HF5 := hid ((RowQ_ok SO.out _).low _ _ _ _ _ _ HQ.out HGC.out.1)
       clear HQ HT HC HGC hCwr SO
       have KQ5 := KM
       clear KM
       obtain ⟨wl5, hwl⟩ : ∃ X, X = wr := ⟨_, rfl⟩
       subst hwl
       obtain ⟨C, hC⟩ : ∃ C, wl5.heap.size = C := ⟨_, rfl⟩
       have HC := hid hC
       have HGC := hid (show w.heap.size ≤ C ∧ G < C ∧ D < C ∧ Q < C from by
        have h1 := (KQ5.out.at_ (b := G) (cs := pbc x) (t := 34) (by simp)).lt
        have h2 := (KQ5.out.at_ (b := D) (cs := [.string ⟨#[]⟩, .int .i64 0, .int .i64 0, .int .i64 0, .slice none 0 0, .slice none 0 0, .slice none 0 0, .slice none 0 0, .slice none 0 0, .slice none 0 0, .slice none 0 0, .int .i64 0, .int .i64 0, .int .i64 0, .int .i64 0]) (t := 34) (by simp)).lt
        have h3 := (KQ5.out.at_ (b := Q) (cs := [txt x.n, .int .i64 x.g.w, .int .i64 x.g.d, .int .i64 x.g.s, .slice A0 x.rm.length c0, .slice A1 x.wk.length c1, .slice A2 x.ps.length c2, .slice A3 x.cl.length c3, .slice A4 x.cs.length c4, .slice A5 x.st.length c5, .slice none 0 0, .int .i64 x.w0, .int .i64 x.w1, .int .i64 x.w2, .int .i64 x.w3]) (t := 34) (by simp)).lt
        have h4 := KQ5.out.2.size
        omega)
       clear hC
       have SO := hid (show ElOk RlE 45 6 from OwE_ok (by decide))
       go_wp2_with fail
       clear pG hlt hk b2
       rename_i a1 Kx a2
       clear a1
       try clear aH
       have AH := hid a2
       clear a2
       go_loopw [13] (fun iv wr => ∃ (k : Nat) (A : Option Addr) (c : Nat), iv = .int .i64 ((k : Nat) : Int) ∧ k ≤ x.rl.length ∧ Hid (Mem w wr [(Q, [txt x.n, .int .i64 x.g.w, .int .i64 x.g.d, .int .i64 x.g.s, .slice A0 x.rm.length c0, .slice A1 x.wk.length c1, .slice A2 x.ps.length c2, .slice A3 x.cl.length c3, .slice A4 x.cs.length c4, .slice A5 x.st.length c5, .slice A k c, .int .i64 x.w0, .int .i64 x.w1, .int .i64 x.w2, .int .i64 x.w3], 34), (D, [.string ⟨#[]⟩, .int .i64 0, .int .i64 0, .int .i64 0, .slice none 0 0, .slice none 0 0, .slice none 0 0, .slice none 0 0, .slice none 0 0, .slice none 0 0, .slice none 0 0, .int .i64 0, .int .i64 0, .int .i64 0, .int .i64 0], 34), (G, pbc x, 34)]) ∧ Hid (RowQ enU 45 6 (fun z => z.x) RlE ((x.rl.take k).map (fun z => z.x)) C A k c wr) ∧ Hid (AbT 34 w.heap.size wl5.heap.size wl5 wr)) (fun iv _ => x.rl.length - (intOf iv).toNat)
       case atStart => exact ⟨0, none, 0, rfl, Nat.zero_le _, KQ5, hid ⟨[], by simp only [List.take_zero, List.map_nil], rfl, own_none _ _ _ _, fun z hz => by cases hz⟩, hid (AbT.refl _ _ _ _)⟩
       case round =>
        clear KQ5
        obtain ⟨k, A6, c6, rfl, hk, KM, HQ, HT⟩ := hrel
        have hCwr := hid (show C ≤ wr.heap.size from by have := HT.out.1; have := HC.out; omega)
        have pG := KM.out.cell (b := G) (cs := pbc x) (t := 34) (by simp) (k := 10) rfl
        by_cases hlt : k < x.rl.length
        · skip
          obtain ⟨ad, y, e0, hadb, hy, hyl, hcell⟩ := Es.get (K := 6) enU_len (by decide) (HI.out.rl.below KM.out.2 (Nat.le_refl _)) hlt
          rw [e0] at pG
          have b1 : (0 : Int) ≤ (k : Int) := by omega
          have b2 : (k : Int) < x.rl.length := by omega
          have h63 : k + 1 ≤ maxLen := by unfold maxLen; omega
          have hby : (k + 1) * 64 ≤ 140737488355328 := by omega
          have Hds := hid (take_map17 (fun z : RlA => z.x) hy.out)
          obtain ⟨i0, hi0, hz0, hz1, hz2⟩ := info_parts Tryz.inf17_rule
          have d0 := hcell 0 _ rfl
          rw [Nat.add_zero] at d0
          have d1 := hcell 1 _ rfl
          rw [add_add _ _ _ (by omega)] at d1
          have d2 := hcell 2 _ rfl
          rw [add_add _ _ _ (by omega)] at d2
          have d3 := hcell 3 _ rfl
          rw [add_add _ _ _ (by omega)] at d3
          have d4 := hcell 4 _ rfl
          rw [add_add _ _ _ (by omega)] at d4
          have d5 := hcell 5 _ rfl
          rw [add_add _ _ _ (by omega)] at d5
          obtain ⟨R, U, hR, hU, K2, hb2⟩ := KM.out.one [.int .i64 0, .slice none 0 0, .int .i64 0, .int .i64 0, .bool false, .int .i64 0] 45
          have HRw := hid (show w.heap.size ≤ R ∧ C ≤ R ∧ Q < R ∧ D < R ∧ G < R from by have := HGC.out; have := hCwr.out; omega)
          have HRN := hid (show ∀ p ∈ ([(Q, [txt x.n, .int .i64 x.g.w, .int .i64 x.g.d, .int .i64 x.g.s, .slice A0 x.rm.length c0, .slice A1 x.wk.length c1, .slice A2 x.ps.length c2, .slice A3 x.cl.length c3, .slice A4 x.cs.length c4, .slice A5 x.st.length c5, .slice A6 k c6, .int .i64 x.w0, .int .i64 x.w1, .int .i64 x.w2, .int .i64 x.w3], 34), (D, [.string ⟨#[]⟩, .int .i64 0, .int .i64 0, .int .i64 0, .slice none 0 0, .slice none 0 0, .slice none 0 0, .slice none 0 0, .slice none 0 0, .slice none 0 0, .slice none 0 0, .int .i64 0, .int .i64 0, .int .i64 0, .int .i64 0], 34), (G, pbc x, 34)] : Obs), p.1 ≠ R from by simp only [List.mem_cons, List.not_mem_nil, or_false]; have := HRw.out; rintro p (rfl | rfl | rfl) <;> (simp only [ne_eq]; omega))
          have gz := (K2.out.at_ (b := R) (cs := [.int .i64 0, .slice none 0 0, .int .i64 0, .int .i64 0, .bool false, .int .i64 0]) (t := 45) (by simp)).free
          have f20 := gz 0
          have z20 := K2.out.cell (b := R) (cs := [.int .i64 0, .slice none 0 0, .int .i64 0, .int .i64 0, .bool false, .int .i64 0]) (t := 45) (by simp) (k := 0) rfl
          have f21 := gz 1
          have z21 := K2.out.cell (b := R) (cs := [.int .i64 0, .slice none 0 0, .int .i64 0, .int .i64 0, .bool false, .int .i64 0]) (t := 45) (by simp) (k := 1) rfl
          have f22 := gz 2
          have z22 := K2.out.cell (b := R) (cs := [.int .i64 0, .slice none 0 0, .int .i64 0, .int .i64 0, .bool false, .int .i64 0]) (t := 45) (by simp) (k := 2) rfl
          have f23 := gz 3
          have z23 := K2.out.cell (b := R) (cs := [.int .i64 0, .slice none 0 0, .int .i64 0, .int .i64 0, .bool false, .int .i64 0]) (t := 45) (by simp) (k := 3) rfl
          have f24 := gz 4
          have z24 := K2.out.cell (b := R) (cs := [.int .i64 0, .slice none 0 0, .int .i64 0, .int .i64 0, .bool false, .int .i64 0]) (t := 45) (by simp) (k := 4) rfl
          have f25 := gz 5
          have z25 := K2.out.cell (b := R) (cs := [.int .i64 0, .slice none 0 0, .int .i64 0, .int .i64 0, .bool false, .int .i64 0]) (t := 45) (by simp) (k := 5) rfl
          clear gz
          obtain ⟨U2, hU2⟩ : ∃ U2, ((((((U.setCell ⟨R, 0, none⟩ (.int .i64 y.x.k)).setCell ⟨R, 1, none⟩ (.slice y.r y.x.l.length y.c)).setCell ⟨R, 2, none⟩ (.int .i64 y.x.a)).setCell ⟨R, 3, none⟩ (.int .i64 y.x.b)).setCell ⟨R, 4, none⟩ (.bool y.x.h)).setCell ⟨R, 5, none⟩ (.int .i64 y.x.c)) = U2 := ⟨_, rfl⟩
          have K3 := hid (show Mem w U2 [(R, enU y, 45), (Q, [txt x.n, .int .i64 x.g.w, .int .i64 x.g.d, .int .i64 x.g.s, .slice A0 x.rm.length c0, .slice A1 x.wk.length c1, .slice A2 x.ps.length c2, .slice A3 x.cl.length c3, .slice A4 x.cs.length c4, .slice A5 x.st.length c5, .slice A6 k c6, .int .i64 x.w0, .int .i64 x.w1, .int .i64 x.w2, .int .i64 x.w3], 34), (D, [.string ⟨#[]⟩, .int .i64 0, .int .i64 0, .int .i64 0, .slice none 0 0, .slice none 0 0, .slice none 0 0, .slice none 0 0, .slice none 0 0, .slice none 0 0, .slice none 0 0, .int .i64 0, .int .i64 0, .int .i64 0, .int .i64 0], 34), (G, pbc x, 34)] from hU2 ▸ ((((((K2.out.set HRw.out.1 HRN.out 0 (.int .i64 y.x.k)).set HRw.out.1 HRN.out 1 (.slice y.r y.x.l.length y.c)).set HRw.out.1 HRN.out 2 (.int .i64 y.x.a)).set HRw.out.1 HRN.out 3 (.int .i64 y.x.b)).set HRw.out.1 HRN.out 4 (.bool y.x.h)).set HRw.out.1 HRN.out 5 (.int .i64 y.x.c)))
          have B3 := hid (show Below wr.heap.size wr U2 from hU2 ▸ ((((((hb2.setCell (p := ⟨R, 0, none⟩) (Nat.le_of_eq hR) (.int .i64 y.x.k)).setCell (p := ⟨R, 1, none⟩) (Nat.le_of_eq hR) (.slice y.r y.x.l.length y.c)).setCell (p := ⟨R, 2, none⟩) (Nat.le_of_eq hR) (.int .i64 y.x.a)).setCell (p := ⟨R, 3, none⟩) (Nat.le_of_eq hR) (.int .i64 y.x.b)).setCell (p := ⟨R, 4, none⟩) (Nat.le_of_eq hR) (.bool y.x.h)).setCell (p := ⟨R, 5, none⟩) (Nat.le_of_eq hR) (.int .i64 y.x.c)))
          have r3 := K3.out.cell (b := R) (cs := enU y) (t := 45) (by simp) (k := 1) rfl
          have HCy := hid (HCrl.out y hyl _ K3.out.2)
          have HU2 := hid (show R < U2.heap.size from (K3.out.at_ (b := R) (cs := enU y) (t := 45) (by simp)).lt)
          clear hcell hb2 K2
          go_wp2_with fail
          refine HCy.out.mono ?_
          rintro e Y ⟨A8, n8, c8, rfl, ⟨rfl, ho⟩, bz⟩
          have K4 := hid (K3.out.next bz)
          have g4 := (K4.out.at_ (b := R) (cs := enU y) (t := 45) (by simp)).free 1
          have y4 := K4.out.cell (b := R) (cs := enU y) (t := 45) (by simp) (k := 1) rfl
          obtain ⟨U3, hU3⟩ : ∃ X, Y.setCell ⟨R, 1, none⟩ (.slice A8 y.x.l.length c8) = X := ⟨_, rfl⟩
          have K5 := hid (show Mem w U3 [(R, enU ⟨y.x, A8, c8⟩, 45), (Q, [txt x.n, .int .i64 x.g.w, .int .i64 x.g.d, .int .i64 x.g.s, .slice A0 x.rm.length c0, .slice A1 x.wk.length c1, .slice A2 x.ps.length c2, .slice A3 x.cl.length c3, .slice A4 x.cs.length c4, .slice A5 x.st.length c5, .slice A6 k c6, .int .i64 x.w0, .int .i64 x.w1, .int .i64 x.w2, .int .i64 x.w3], 34), (D, [.string ⟨#[]⟩, .int .i64 0, .int .i64 0, .int .i64 0, .slice none 0 0, .slice none 0 0, .slice none 0 0, .slice none 0 0, .slice none 0 0, .slice none 0 0, .slice none 0 0, .int .i64 0, .int .i64 0, .int .i64 0, .int .i64 0], 34), (G, pbc x, 34)] from hU3 ▸ K4.out.set HRw.out.1 HRN.out 1 _)
          have B5 := hid (show Below wr.heap.size wr U3 from hU3 ▸ (B3.out.trans (bz.mono B3.out.size)).setCell (p := ⟨R, 1, none⟩) (Nat.le_of_eq hR) _)
          have HY5 := hid (show RlE C ⟨y.x, A8, c8⟩ U3 from own_mono (own_abv ho (hU3 ▸ Abv.set _ _ _ HU2.out)) (by have := HU2.out; have := HRw.out; omega))
          clear ho bz K4 K3 r3 f20 z20 f21 z21 f22 z22 f23 z23 f24 z24 f25 z25
          have q5 := K5.out.cell (b := Q) (cs := [txt x.n, .int .i64 x.g.w, .int .i64 x.g.d, .int .i64 x.g.s, .slice A0 x.rm.length c0, .slice A1 x.wk.length c1, .slice A2 x.ps.length c2, .slice A3 x.cl.length c3, .slice A4 x.cs.length c4, .slice A5 x.st.length c5, .slice A6 k c6, .int .i64 x.w0, .int .i64 x.w1, .int .i64 x.w2, .int .i64 x.w3]) (t := 34) (by simp) (k := 10) rfl
          have r50 := K5.out.cell (b := R) (cs := enU ⟨y.x, A8, c8⟩) (t := 45) (by simp) (k := 0) rfl
          have r51 := K5.out.cell (b := R) (cs := enU ⟨y.x, A8, c8⟩) (t := 45) (by simp) (k := 1) rfl
          have r52 := K5.out.cell (b := R) (cs := enU ⟨y.x, A8, c8⟩) (t := 45) (by simp) (k := 2) rfl
          have r53 := K5.out.cell (b := R) (cs := enU ⟨y.x, A8, c8⟩) (t := 45) (by simp) (k := 3) rfl
          have r54 := K5.out.cell (b := R) (cs := enU ⟨y.x, A8, c8⟩) (t := 45) (by simp) (k := 4) rfl
          have r55 := K5.out.cell (b := R) (cs := enU ⟨y.x, A8, c8⟩) (t := 45) (by simp) (k := 5) rfl
          obtain ⟨zs, hzm, hzl, O, hzE⟩ := (RowQ_ok SO.out _).keep _ _ _ _ _ _ HQ.out (Abv.of B5.out)
          have O := hid O
          have HzE := hid hzE
          have hC5 := hid (show C ≤ U3.heap.size from Nat.le_trans hCwr.out B5.out.size)
          clear hzE HQ
          go_wp2_with (at_builtin; refine wpList_append_own _ rfl _ _ 30 rfl C 45 i0 (.agg #[.int .i64 0, .slice none 0 0, .int .i64 0, .int .i64 0, .bool false, .int .i64 0]) 6 64 Tryz.underlying30 hi0 hz0 hz1 hz2 rfl (by decide) _ _ _ rfl (O.out.alloc _) ⟨_, 0, none⟩ 1 1 (enU (⟨y.x, A8, c8⟩)) rfl rfl (elit_get _ _ _) (one17_Rule _) h63 hby (le_alloc hC5.out _) ?_; intro v1 w5 hown2 hgrow _; have bl := below_alloc U3 (.cells (enU (⟨y.x, A8, c8⟩)).toArray 45); obtain ⟨A9, c9, rfl, hq9⟩ := RowQ.grown (f := fun z : RlA => z.x) SO.out (O.out.alloc _) hzm hzl (fun z hz => SO.out.keep _ _ _ _ (HzE.out z hz) (Abv.of bl)) (SO.out.keep _ _ _ _ HY5.out (Abv.of bl)) hown2 hgrow; have bC := (bl.mono hC5.out).trans ((Below.refl C _).grown hgrow (le_alloc hC5.out _) (fun k hk => (O.out.lt k hk).1)); have K6 := hid ((K5.out.sub (l' := [(Q, [txt x.n, .int .i64 x.g.w, .int .i64 x.g.d, .int .i64 x.g.s, .slice A0 x.rm.length c0, .slice A1 x.wk.length c1, .slice A2 x.ps.length c2, .slice A3 x.cl.length c3, .slice A4 x.cs.length c4, .slice A5 x.st.length c5, .slice A6 k c6, .int .i64 x.w0, .int .i64 x.w1, .int .i64 x.w2, .int .i64 x.w3], 34), (D, [.string ⟨#[]⟩, .int .i64 0, .int .i64 0, .int .i64 0, .slice none 0 0, .slice none 0 0, .slice none 0 0, .slice none 0 0, .slice none 0 0, .slice none 0 0, .slice none 0 0, .int .i64 0, .int .i64 0, .int .i64 0, .int .i64 0], 34), (G, pbc x, 34)]) (by simp)).grown17 bC HGC.out.1 (by simp only [List.mem_cons, List.not_mem_nil, or_false]; have := HGC.out; rintro p (rfl | rfl | rfl) <;> (simp only; omega))); have fq := (K6.out.at_ (b := Q) (cs := [txt x.n, .int .i64 x.g.w, .int .i64 x.g.d, .int .i64 x.g.s, .slice A0 x.rm.length c0, .slice A1 x.wk.length c1, .slice A2 x.ps.length c2, .slice A3 x.cl.length c3, .slice A4 x.cs.length c4, .slice A5 x.st.length c5, .slice A6 k c6, .int .i64 x.w0, .int .i64 x.w1, .int .i64 x.w2, .int .i64 x.w3]) (t := 34) (by simp)).free 10; have yq := K6.out.cell (b := Q) (cs := [txt x.n, .int .i64 x.g.w, .int .i64 x.g.d, .int .i64 x.g.s, .slice A0 x.rm.length c0, .slice A1 x.wk.length c1, .slice A2 x.ps.length c2, .slice A3 x.cl.length c3, .slice A4 x.cs.length c4, .slice A5 x.st.length c5, .slice A6 k c6, .int .i64 x.w0, .int .i64 x.w1, .int .i64 x.w2, .int .i64 x.w3]) (t := 34) (by simp) (k := 10) rfl; obtain ⟨U6, hU6⟩ : ∃ X, w5.setCell ⟨Q, 10, none⟩ (.slice A9 (k + 1) c9) = X := ⟨_, rfl⟩; have K7 := hid (show Mem w U6 [(Q, [txt x.n, .int .i64 x.g.w, .int .i64 x.g.d, .int .i64 x.g.s, .slice A0 x.rm.length c0, .slice A1 x.wk.length c1, .slice A2 x.ps.length c2, .slice A3 x.cl.length c3, .slice A4 x.cs.length c4, .slice A5 x.st.length c5, .slice A9 (k + 1) c9, .int .i64 x.w0, .int .i64 x.w1, .int .i64 x.w2, .int .i64 x.w3], 34), (D, [.string ⟨#[]⟩, .int .i64 0, .int .i64 0, .int .i64 0, .slice none 0 0, .slice none 0 0, .slice none 0 0, .slice none 0 0, .slice none 0 0, .slice none 0 0, .slice none 0 0, .int .i64 0, .int .i64 0, .int .i64 0, .int .i64 0], 34), (G, pbc x, 34)] from hU6 ▸ K6.out.set HGQ.out.2.2.1 HNE.out 10 _); have hab := AbT.set (b := w.heap.size) (C := w5.heap.size) w5 (K6.out.at_ (b := Q) (cs := [txt x.n, .int .i64 x.g.w, .int .i64 x.g.d, .int .i64 x.g.s, .slice A0 x.rm.length c0, .slice A1 x.wk.length c1, .slice A2 x.ps.length c2, .slice A3 x.cl.length c3, .slice A4 x.cs.length c4, .slice A5 x.st.length c5, .slice A6 k c6, .int .i64 x.w0, .int .i64 x.w1, .int .i64 x.w2, .int .i64 x.w3]) (t := 34) (by simp)) 10 (.slice A9 (k + 1) c9); have HQ7 := hid (show RowQ enU 45 6 (fun z => z.x) RlE ((x.rl.take (k + 1)).map (fun z => z.x)) C A9 (k + 1) c9 U6 from by rw [Hds.out]; exact hU6 ▸ RowQ.abt (by decide) (OwE_t (by decide)) hq9 (hab.up HGC.out.1)); have hCw := HC.out; have HT7 := hid (show AbT 34 w.heap.size wl5.heap.size wl5 U6 from (HT.out.trans (AbT.of ((B5.out.mono (Nat.le_trans (Nat.le_of_eq hCw) hCwr.out)).trans (bC.mono (Nat.le_of_eq hCw))))).trans (hU6 ▸ hab.less (by have := bC.size; have := hC5.out; omega))); clear hown2 hgrow bl bC hq9 hab hCw)
          exact ⟨⟨k + 1, A9, c9, by go_num, by omega, K7, HQ7, HT7⟩, by simp [intOf]; omega⟩
        · obtain rfl : k = x.rl.length := by omega
          have aH := AH.out
          clear AH
          have b2 : ¬ (x.rl.length : Int) < x.rl.length := by omega
          rw [List.take_length] at HQ
          replace HF1 := hid (RowQ.abt (t := 34) (by decide) (OwE_t (by decide)) HF1.out HT.out)
          replace HF0 := hid (RowQ.abt (t := 34) (by decide) (OwE_t (by decide)) HF0.out HT.out)
          replace HF2 := hid (RowQ.abt (t := 34) (by decide) (OwE_t (by decide)) HF2.out HT.out)
          replace HF3 := hid (RowQ.abt (t := 34) (by decide) (ClE_t (by decide) (by decide) (by decide)) HF3.out HT.out)
          replace HF4 := hid (RowQ.abt (t := 34) (by decide) (CsE_t (by decide) (by decide) (by decide)) HF4.out HT.out)
          replace HF5 := hid (RowQ.abt (t := 34) (by decide) (OwE_t (by decide)) HF5.out HT.out)
          have HF6 := hid ((RowQ_ok SO.out _).low _ _ _ _ _ _ HQ.out HGC.out.1)
          clear HQ HT HC HGC hCwr SO
          have KQ6 := KM
          clear KM
          obtain ⟨wl6, hwl⟩ : ∃ X, X = wr := ⟨_, rfl⟩
          subst hwl
          go_upto_region 37 with fail
          rename_i a1 Kx a2
          clear a1
          have AH := hid a2
          clear a2
          have gz := (KQ6.out.at_ (b := D) (cs := [.string ⟨#[]⟩, .int .i64 0, .int .i64 0, .int .i64 0, .slice none 0 0, .slice none 0 0, .slice none 0 0, .slice none 0 0, .slice none 0 0, .slice none 0 0, .slice none 0 0, .int .i64 0, .int .i64 0, .int .i64 0, .int .i64 0]) (t := 34) (by simp)).free
          have f0_ := gz 0
          have z0_ := KQ6.out.cell (b := D) (cs := [.string ⟨#[]⟩, .int .i64 0, .int .i64 0, .int .i64 0, .slice none 0 0, .slice none 0 0, .slice none 0 0, .slice none 0 0, .slice none 0 0, .slice none 0 0, .slice none 0 0, .int .i64 0, .int .i64 0, .int .i64 0, .int .i64 0]) (t := 34) (by simp) (k := 0) rfl
          have e0_ := KQ6.out.cell (b := Q) (cs := [txt x.n, .int .i64 x.g.w, .int .i64 x.g.d, .int .i64 x.g.s, .slice A0 x.rm.length c0, .slice A1 x.wk.length c1, .slice A2 x.ps.length c2, .slice A3 x.cl.length c3, .slice A4 x.cs.length c4, .slice A5 x.st.length c5, .slice A6 x.rl.length c6, .int .i64 x.w0, .int .i64 x.w1, .int .i64 x.w2, .int .i64 x.w3]) (t := 34) (by simp) (k := 0) rfl
          have f1_ := gz 1
          have z1_ := KQ6.out.cell (b := D) (cs := [.string ⟨#[]⟩, .int .i64 0, .int .i64 0, .int .i64 0, .slice none 0 0, .slice none 0 0, .slice none 0 0, .slice none 0 0, .slice none 0 0, .slice none 0 0, .slice none 0 0, .int .i64 0, .int .i64 0, .int .i64 0, .int .i64 0]) (t := 34) (by simp) (k := 1) rfl
          have e1_ := KQ6.out.cell (b := Q) (cs := [txt x.n, .int .i64 x.g.w, .int .i64 x.g.d, .int .i64 x.g.s, .slice A0 x.rm.length c0, .slice A1 x.wk.length c1, .slice A2 x.ps.length c2, .slice A3 x.cl.length c3, .slice A4 x.cs.length c4, .slice A5 x.st.length c5, .slice A6 x.rl.length c6, .int .i64 x.w0, .int .i64 x.w1, .int .i64 x.w2, .int .i64 x.w3]) (t := 34) (by simp) (k := 1) rfl
          have f2_ := gz 2
          have z2_ := KQ6.out.cell (b := D) (cs := [.string ⟨#[]⟩, .int .i64 0, .int .i64 0, .int .i64 0, .slice none 0 0, .slice none 0 0, .slice none 0 0, .slice none 0 0, .slice none 0 0, .slice none 0 0, .slice none 0 0, .int .i64 0, .int .i64 0, .int .i64 0, .int .i64 0]) (t := 34) (by simp) (k := 2) rfl
          have e2_ := KQ6.out.cell (b := Q) (cs := [txt x.n, .int .i64 x.g.w, .int .i64 x.g.d, .int .i64 x.g.s, .slice A0 x.rm.length c0, .slice A1 x.wk.length c1, .slice A2 x.ps.length c2, .slice A3 x.cl.length c3, .slice A4 x.cs.length c4, .slice A5 x.st.length c5, .slice A6 x.rl.length c6, .int .i64 x.w0, .int .i64 x.w1, .int .i64 x.w2, .int .i64 x.w3]) (t := 34) (by simp) (k := 2) rfl
          have f3_ := gz 3
          have z3_ := KQ6.out.cell (b := D) (cs := [.string ⟨#[]⟩, .int .i64 0, .int .i64 0, .int .i64 0, .slice none 0 0, .slice none 0 0, .slice none 0 0, .slice none 0 0, .slice none 0 0, .slice none 0 0, .slice none 0 0, .int .i64 0, .int .i64 0, .int .i64 0, .int .i64 0]) (t := 34) (by simp) (k := 3) rfl
          have e3_ := KQ6.out.cell (b := Q) (cs := [txt x.n, .int .i64 x.g.w, .int .i64 x.g.d, .int .i64 x.g.s, .slice A0 x.rm.length c0, .slice A1 x.wk.length c1, .slice A2 x.ps.length c2, .slice A3 x.cl.length c3, .slice A4 x.cs.length c4, .slice A5 x.st.length c5, .slice A6 x.rl.length c6, .int .i64 x.w0, .int .i64 x.w1, .int .i64 x.w2, .int .i64 x.w3]) (t := 34) (by simp) (k := 3) rfl
          have f4_ := gz 4
          have z4_ := KQ6.out.cell (b := D) (cs := [.string ⟨#[]⟩, .int .i64 0, .int .i64 0, .int .i64 0, .slice none 0 0, .slice none 0 0, .slice none 0 0, .slice none 0 0, .slice none 0 0, .slice none 0 0, .slice none 0 0, .int .i64 0, .int .i64 0, .int .i64 0, .int .i64 0]) (t := 34) (by simp) (k := 4) rfl
          have e4_ := KQ6.out.cell (b := Q) (cs := [txt x.n, .int .i64 x.g.w, .int .i64 x.g.d, .int .i64 x.g.s, .slice A0 x.rm.length c0, .slice A1 x.wk.length c1, .slice A2 x.ps.length c2, .slice A3 x.cl.length c3, .slice A4 x.cs.length c4, .slice A5 x.st.length c5, .slice A6 x.rl.length c6, .int .i64 x.w0, .int .i64 x.w1, .int .i64 x.w2, .int .i64 x.w3]) (t := 34) (by simp) (k := 4) rfl
          have f5_ := gz 5
          have z5_ := KQ6.out.cell (b := D) (cs := [.string ⟨#[]⟩, .int .i64 0, .int .i64 0, .int .i64 0, .slice none 0 0, .slice none 0 0, .slice none 0 0, .slice none 0 0, .slice none 0 0, .slice none 0 0, .slice none 0 0, .int .i64 0, .int .i64 0, .int .i64 0, .int .i64 0]) (t := 34) (by simp) (k := 5) rfl
          have e5_ := KQ6.out.cell (b := Q) (cs := [txt x.n, .int .i64 x.g.w, .int .i64 x.g.d, .int .i64 x.g.s, .slice A0 x.rm.length c0, .slice A1 x.wk.length c1, .slice A2 x.ps.length c2, .slice A3 x.cl.length c3, .slice A4 x.cs.length c4, .slice A5 x.st.length c5, .slice A6 x.rl.length c6, .int .i64 x.w0, .int .i64 x.w1, .int .i64 x.w2, .int .i64 x.w3]) (t := 34) (by simp) (k := 5) rfl
          have f6_ := gz 6
          have z6_ := KQ6.out.cell (b := D) (cs := [.string ⟨#[]⟩, .int .i64 0, .int .i64 0, .int .i64 0, .slice none 0 0, .slice none 0 0, .slice none 0 0, .slice none 0 0, .slice none 0 0, .slice none 0 0, .slice none 0 0, .int .i64 0, .int .i64 0, .int .i64 0, .int .i64 0]) (t := 34) (by simp) (k := 6) rfl
          have e6_ := KQ6.out.cell (b := Q) (cs := [txt x.n, .int .i64 x.g.w, .int .i64 x.g.d, .int .i64 x.g.s, .slice A0 x.rm.length c0, .slice A1 x.wk.length c1, .slice A2 x.ps.length c2, .slice A3 x.cl.length c3, .slice A4 x.cs.length c4, .slice A5 x.st.length c5, .slice A6 x.rl.length c6, .int .i64 x.w0, .int .i64 x.w1, .int .i64 x.w2, .int .i64 x.w3]) (t := 34) (by simp) (k := 6) rfl
          have f7_ := gz 7
          have z7_ := KQ6.out.cell (b := D) (cs := [.string ⟨#[]⟩, .int .i64 0, .int .i64 0, .int .i64 0, .slice none 0 0, .slice none 0 0, .slice none 0 0, .slice none 0 0, .slice none 0 0, .slice none 0 0, .slice none 0 0, .int .i64 0, .int .i64 0, .int .i64 0, .int .i64 0]) (t := 34) (by simp) (k := 7) rfl
          have e7_ := KQ6.out.cell (b := Q) (cs := [txt x.n, .int .i64 x.g.w, .int .i64 x.g.d, .int .i64 x.g.s, .slice A0 x.rm.length c0, .slice A1 x.wk.length c1, .slice A2 x.ps.length c2, .slice A3 x.cl.length c3, .slice A4 x.cs.length c4, .slice A5 x.st.length c5, .slice A6 x.rl.length c6, .int .i64 x.w0, .int .i64 x.w1, .int .i64 x.w2, .int .i64 x.w3]) (t := 34) (by simp) (k := 7) rfl
          have f8_ := gz 8
          have z8_ := KQ6.out.cell (b := D) (cs := [.string ⟨#[]⟩, .int .i64 0, .int .i64 0, .int .i64 0, .slice none 0 0, .slice none 0 0, .slice none 0 0, .slice none 0 0, .slice none 0 0, .slice none 0 0, .slice none 0 0, .int .i64 0, .int .i64 0, .int .i64 0, .int .i64 0]) (t := 34) (by simp) (k := 8) rfl
          have e8_ := KQ6.out.cell (b := Q) (cs := [txt x.n, .int .i64 x.g.w, .int .i64 x.g.d, .int .i64 x.g.s, .slice A0 x.rm.length c0, .slice A1 x.wk.length c1, .slice A2 x.ps.length c2, .slice A3 x.cl.length c3, .slice A4 x.cs.length c4, .slice A5 x.st.length c5, .slice A6 x.rl.length c6, .int .i64 x.w0, .int .i64 x.w1, .int .i64 x.w2, .int .i64 x.w3]) (t := 34) (by simp) (k := 8) rfl
          have f9_ := gz 9
          have z9_ := KQ6.out.cell (b := D) (cs := [.string ⟨#[]⟩, .int .i64 0, .int .i64 0, .int .i64 0, .slice none 0 0, .slice none 0 0, .slice none 0 0, .slice none 0 0, .slice none 0 0, .slice none 0 0, .slice none 0 0, .int .i64 0, .int .i64 0, .int .i64 0, .int .i64 0]) (t := 34) (by simp) (k := 9) rfl
          have e9_ := KQ6.out.cell (b := Q) (cs := [txt x.n, .int .i64 x.g.w, .int .i64 x.g.d, .int .i64 x.g.s, .slice A0 x.rm.length c0, .slice A1 x.wk.length c1, .slice A2 x.ps.length c2, .slice A3 x.cl.length c3, .slice A4 x.cs.length c4, .slice A5 x.st.length c5, .slice A6 x.rl.length c6, .int .i64 x.w0, .int .i64 x.w1, .int .i64 x.w2, .int .i64 x.w3]) (t := 34) (by simp) (k := 9) rfl
          have f10_ := gz 10
          have z10_ := KQ6.out.cell (b := D) (cs := [.string ⟨#[]⟩, .int .i64 0, .int .i64 0, .int .i64 0, .slice none 0 0, .slice none 0 0, .slice none 0 0, .slice none 0 0, .slice none 0 0, .slice none 0 0, .slice none 0 0, .int .i64 0, .int .i64 0, .int .i64 0, .int .i64 0]) (t := 34) (by simp) (k := 10) rfl
          have e10_ := KQ6.out.cell (b := Q) (cs := [txt x.n, .int .i64 x.g.w, .int .i64 x.g.d, .int .i64 x.g.s, .slice A0 x.rm.length c0, .slice A1 x.wk.length c1, .slice A2 x.ps.length c2, .slice A3 x.cl.length c3, .slice A4 x.cs.length c4, .slice A5 x.st.length c5, .slice A6 x.rl.length c6, .int .i64 x.w0, .int .i64 x.w1, .int .i64 x.w2, .int .i64 x.w3]) (t := 34) (by simp) (k := 10) rfl
          have f11_ := gz 11
          have z11_ := KQ6.out.cell (b := D) (cs := [.string ⟨#[]⟩, .int .i64 0, .int .i64 0, .int .i64 0, .slice none 0 0, .slice none 0 0, .slice none 0 0, .slice none 0 0, .slice none 0 0, .slice none 0 0, .slice none 0 0, .int .i64 0, .int .i64 0, .int .i64 0, .int .i64 0]) (t := 34) (by simp) (k := 11) rfl
          have e11_ := KQ6.out.cell (b := Q) (cs := [txt x.n, .int .i64 x.g.w, .int .i64 x.g.d, .int .i64 x.g.s, .slice A0 x.rm.length c0, .slice A1 x.wk.length c1, .slice A2 x.ps.length c2, .slice A3 x.cl.length c3, .slice A4 x.cs.length c4, .slice A5 x.st.length c5, .slice A6 x.rl.length c6, .int .i64 x.w0, .int .i64 x.w1, .int .i64 x.w2, .int .i64 x.w3]) (t := 34) (by simp) (k := 11) rfl
          have f12_ := gz 12
          have z12_ := KQ6.out.cell (b := D) (cs := [.string ⟨#[]⟩, .int .i64 0, .int .i64 0, .int .i64 0, .slice none 0 0, .slice none 0 0, .slice none 0 0, .slice none 0 0, .slice none 0 0, .slice none 0 0, .slice none 0 0, .int .i64 0, .int .i64 0, .int .i64 0, .int .i64 0]) (t := 34) (by simp) (k := 12) rfl
          have e12_ := KQ6.out.cell (b := Q) (cs := [txt x.n, .int .i64 x.g.w, .int .i64 x.g.d, .int .i64 x.g.s, .slice A0 x.rm.length c0, .slice A1 x.wk.length c1, .slice A2 x.ps.length c2, .slice A3 x.cl.length c3, .slice A4 x.cs.length c4, .slice A5 x.st.length c5, .slice A6 x.rl.length c6, .int .i64 x.w0, .int .i64 x.w1, .int .i64 x.w2, .int .i64 x.w3]) (t := 34) (by simp) (k := 12) rfl
          have f13_ := gz 13
          have z13_ := KQ6.out.cell (b := D) (cs := [.string ⟨#[]⟩, .int .i64 0, .int .i64 0, .int .i64 0, .slice none 0 0, .slice none 0 0, .slice none 0 0, .slice none 0 0, .slice none 0 0, .slice none 0 0, .slice none 0 0, .int .i64 0, .int .i64 0, .int .i64 0, .int .i64 0]) (t := 34) (by simp) (k := 13) rfl
          have e13_ := KQ6.out.cell (b := Q) (cs := [txt x.n, .int .i64 x.g.w, .int .i64 x.g.d, .int .i64 x.g.s, .slice A0 x.rm.length c0, .slice A1 x.wk.length c1, .slice A2 x.ps.length c2, .slice A3 x.cl.length c3, .slice A4 x.cs.length c4, .slice A5 x.st.length c5, .slice A6 x.rl.length c6, .int .i64 x.w0, .int .i64 x.w1, .int .i64 x.w2, .int .i64 x.w3]) (t := 34) (by simp) (k := 13) rfl
          have f14_ := gz 14
          have z14_ := KQ6.out.cell (b := D) (cs := [.string ⟨#[]⟩, .int .i64 0, .int .i64 0, .int .i64 0, .slice none 0 0, .slice none 0 0, .slice none 0 0, .slice none 0 0, .slice none 0 0, .slice none 0 0, .slice none 0 0, .int .i64 0, .int .i64 0, .int .i64 0, .int .i64 0]) (t := 34) (by simp) (k := 14) rfl
          have e14_ := KQ6.out.cell (b := Q) (cs := [txt x.n, .int .i64 x.g.w, .int .i64 x.g.d, .int .i64 x.g.s, .slice A0 x.rm.length c0, .slice A1 x.wk.length c1, .slice A2 x.ps.length c2, .slice A3 x.cl.length c3, .slice A4 x.cs.length c4, .slice A5 x.st.length c5, .slice A6 x.rl.length c6, .int .i64 x.w0, .int .i64 x.w1, .int .i64 x.w2, .int .i64 x.w3]) (t := 34) (by simp) (k := 14) rfl
          clear gz
          have KD := hid (KQ6.out.sub (l' := [(D, [.string ⟨#[]⟩, .int .i64 0, .int .i64 0, .int .i64 0, .slice none 0 0, .slice none 0 0, .slice none 0 0, .slice none 0 0, .slice none 0 0, .slice none 0 0, .slice none 0 0, .int .i64 0, .int .i64 0, .int .i64 0, .int .i64 0], 34), (Q, [txt x.n, .int .i64 x.g.w, .int .i64 x.g.d, .int .i64 x.g.s, .slice A0 x.rm.length c0, .slice A1 x.wk.length c1, .slice A2 x.ps.length c2, .slice A3 x.cl.length c3, .slice A4 x.cs.length c4, .slice A5 x.st.length c5, .slice A6 x.rl.length c6, .int .i64 x.w0, .int .i64 x.w1, .int .i64 x.w2, .int .i64 x.w3], 34), (G, pbc x, 34)]) (by simp))
          have HND := hid (show ∀ p ∈ ([(Q, [txt x.n, .int .i64 x.g.w, .int .i64 x.g.d, .int .i64 x.g.s, .slice A0 x.rm.length c0, .slice A1 x.wk.length c1, .slice A2 x.ps.length c2, .slice A3 x.cl.length c3, .slice A4 x.cs.length c4, .slice A5 x.st.length c5, .slice A6 x.rl.length c6, .int .i64 x.w0, .int .i64 x.w1, .int .i64 x.w2, .int .i64 x.w3], 34), (G, pbc x, 34)] : Obs), p.1 ≠ D from by simp only [List.mem_cons, List.not_mem_nil, or_false]; have h1 := HGQ.out; have h2 := HGD.out; rintro p (rfl | rfl) <;> (simp only [ne_eq]; omega))
          obtain ⟨R, hR⟩ : ∃ R, (((((((((((((((wl6.setCell ⟨D, 0, none⟩ (txt x.n)).setCell ⟨D, 1, none⟩ (.int .i64 x.g.w)).setCell ⟨D, 2, none⟩ (.int .i64 x.g.d)).setCell ⟨D, 3, none⟩ (.int .i64 x.g.s)).setCell ⟨D, 4, none⟩ (.slice A0 x.rm.length c0)).setCell ⟨D, 5, none⟩ (.slice A1 x.wk.length c1)).setCell ⟨D, 6, none⟩ (.slice A2 x.ps.length c2)).setCell ⟨D, 7, none⟩ (.slice A3 x.cl.length c3)).setCell ⟨D, 8, none⟩ (.slice A4 x.cs.length c4)).setCell ⟨D, 9, none⟩ (.slice A5 x.st.length c5)).setCell ⟨D, 10, none⟩ (.slice A6 x.rl.length c6)).setCell ⟨D, 11, none⟩ (.int .i64 x.w0)).setCell ⟨D, 12, none⟩ (.int .i64 x.w1)).setCell ⟨D, 13, none⟩ (.int .i64 x.w2)).setCell ⟨D, 14, none⟩ (.int .i64 x.w3)) = R := ⟨_, rfl⟩
          have KR := hid (show Mem w R [(D, [txt x.n, .int .i64 x.g.w, .int .i64 x.g.d, .int .i64 x.g.s, .slice A0 x.rm.length c0, .slice A1 x.wk.length c1, .slice A2 x.ps.length c2, .slice A3 x.cl.length c3, .slice A4 x.cs.length c4, .slice A5 x.st.length c5, .slice A6 x.rl.length c6, .int .i64 x.w0, .int .i64 x.w1, .int .i64 x.w2, .int .i64 x.w3], 34), (Q, [txt x.n, .int .i64 x.g.w, .int .i64 x.g.d, .int .i64 x.g.s, .slice A0 x.rm.length c0, .slice A1 x.wk.length c1, .slice A2 x.ps.length c2, .slice A3 x.cl.length c3, .slice A4 x.cs.length c4, .slice A5 x.st.length c5, .slice A6 x.rl.length c6, .int .i64 x.w0, .int .i64 x.w1, .int .i64 x.w2, .int .i64 x.w3], 34), (G, pbc x, 34)] from hR ▸ (((((((((((((((KD.out.set HGQ.out.2.1 HND.out 0 (txt x.n)).set HGQ.out.2.1 HND.out 1 (.int .i64 x.g.w)).set HGQ.out.2.1 HND.out 2 (.int .i64 x.g.d)).set HGQ.out.2.1 HND.out 3 (.int .i64 x.g.s)).set HGQ.out.2.1 HND.out 4 (.slice A0 x.rm.length c0)).set HGQ.out.2.1 HND.out 5 (.slice A1 x.wk.length c1)).set HGQ.out.2.1 HND.out 6 (.slice A2 x.ps.length c2)).set HGQ.out.2.1 HND.out 7 (.slice A3 x.cl.length c3)).set HGQ.out.2.1 HND.out 8 (.slice A4 x.cs.length c4)).set HGQ.out.2.1 HND.out 9 (.slice A5 x.st.length c5)).set HGQ.out.2.1 HND.out 10 (.slice A6 x.rl.length c6)).set HGQ.out.2.1 HND.out 11 (.int .i64 x.w0)).set HGQ.out.2.1 HND.out 12 (.int .i64 x.w1)).set HGQ.out.2.1 HND.out 13 (.int .i64 x.w2)).set HGQ.out.2.1 HND.out 14 (.int .i64 x.w3)))
          have HAB := hid (show AbT 34 w.heap.size wl6.heap.size wl6 R from hR ▸ (((((((((((((((AbT.set _ ((KD.out).at_ (List.mem_cons_self ..)) 0 (txt x.n)).trans (AbT.set _ ((KD.out.set HGQ.out.2.1 HND.out 0 (txt x.n)).at_ (List.mem_cons_self ..)) 1 (.int .i64 x.g.w))).trans (AbT.set _ (((KD.out.set HGQ.out.2.1 HND.out 0 (txt x.n)).set HGQ.out.2.1 HND.out 1 (.int .i64 x.g.w)).at_ (List.mem_cons_self ..)) 2 (.int .i64 x.g.d))).trans (AbT.set _ ((((KD.out.set HGQ.out.2.1 HND.out 0 (txt x.n)).set HGQ.out.2.1 HND.out 1 (.int .i64 x.g.w)).set HGQ.out.2.1 HND.out 2 (.int .i64 x.g.d)).at_ (List.mem_cons_self ..)) 3 (.int .i64 x.g.s))).trans (AbT.set _ (((((KD.out.set HGQ.out.2.1 HND.out 0 (txt x.n)).set HGQ.out.2.1 HND.out 1 (.int .i64 x.g.w)).set HGQ.out.2.1 HND.out 2 (.int .i64 x.g.d)).set HGQ.out.2.1 HND.out 3 (.int .i64 x.g.s)).at_ (List.mem_cons_self ..)) 4 (.slice A0 x.rm.length c0))).trans (AbT.set _ ((((((KD.out.set HGQ.out.2.1 HND.out 0 (txt x.n)).set HGQ.out.2.1 HND.out 1 (.int .i64 x.g.w)).set HGQ.out.2.1 HND.out 2 (.int .i64 x.g.d)).set HGQ.out.2.1 HND.out 3 (.int .i64 x.g.s)).set HGQ.out.2.1 HND.out 4 (.slice A0 x.rm.length c0)).at_ (List.mem_cons_self ..)) 5 (.slice A1 x.wk.length c1))).trans (AbT.set _ (((((((KD.out.set HGQ.out.2.1 HND.out 0 (txt x.n)).set HGQ.out.2.1 HND.out 1 (.int .i64 x.g.w)).set HGQ.out.2.1 HND.out 2 (.int .i64 x.g.d)).set HGQ.out.2.1 HND.out 3 (.int .i64 x.g.s)).set HGQ.out.2.1 HND.out 4 (.slice A0 x.rm.length c0)).set HGQ.out.2.1 HND.out 5 (.slice A1 x.wk.length c1)).at_ (List.mem_cons_self ..)) 6 (.slice A2 x.ps.length c2))).trans (AbT.set _ ((((((((KD.out.set HGQ.out.2.1 HND.out 0 (txt x.n)).set HGQ.out.2.1 HND.out 1 (.int .i64 x.g.w)).set HGQ.out.2.1 HND.out 2 (.int .i64 x.g.d)).set HGQ.out.2.1 HND.out 3 (.int .i64 x.g.s)).set HGQ.out.2.1 HND.out 4 (.slice A0 x.rm.length c0)).set HGQ.out.2.1 HND.out 5 (.slice A1 x.wk.length c1)).set HGQ.out.2.1 HND.out 6 (.slice A2 x.ps.length c2)).at_ (List.mem_cons_self ..)) 7 (.slice A3 x.cl.length c3))).trans (AbT.set _ (((((((((KD.out.set HGQ.out.2.1 HND.out 0 (txt x.n)).set HGQ.out.2.1 HND.out 1 (.int .i64 x.g.w)).set HGQ.out.2.1 HND.out 2 (.int .i64 x.g.d)).set HGQ.out.2.1 HND.out 3 (.int .i64 x.g.s)).set HGQ.out.2.1 HND.out 4 (.slice A0 x.rm.length c0)).set HGQ.out.2.1 HND.out 5 (.slice A1 x.wk.length c1)).set HGQ.out.2.1 HND.out 6 (.slice A2 x.ps.length c2)).set HGQ.out.2.1 HND.out 7 (.slice A3 x.cl.length c3)).at_ (List.mem_cons_self ..)) 8 (.slice A4 x.cs.length c4))).trans (AbT.set _ ((((((((((KD.out.set HGQ.out.2.1 HND.out 0 (txt x.n)).set HGQ.out.2.1 HND.out 1 (.int .i64 x.g.w)).set HGQ.out.2.1 HND.out 2 (.int .i64 x.g.d)).set HGQ.out.2.1 HND.out 3 (.int .i64 x.g.s)).set HGQ.out.2.1 HND.out 4 (.slice A0 x.rm.length c0)).set HGQ.out.2.1 HND.out 5 (.slice A1 x.wk.length c1)).set HGQ.out.2.1 HND.out 6 (.slice A2 x.ps.length c2)).set HGQ.out.2.1 HND.out 7 (.slice A3 x.cl.length c3)).set HGQ.out.2.1 HND.out 8 (.slice A4 x.cs.length c4)).at_ (List.mem_cons_self ..)) 9 (.slice A5 x.st.length c5))).trans (AbT.set _ (((((((((((KD.out.set HGQ.out.2.1 HND.out 0 (txt x.n)).set HGQ.out.2.1 HND.out 1 (.int .i64 x.g.w)).set HGQ.out.2.1 HND.out 2 (.int .i64 x.g.d)).set HGQ.out.2.1 HND.out 3 (.int .i64 x.g.s)).set HGQ.out.2.1 HND.out 4 (.slice A0 x.rm.length c0)).set HGQ.out.2.1 HND.out 5 (.slice A1 x.wk.length c1)).set HGQ.out.2.1 HND.out 6 (.slice A2 x.ps.length c2)).set HGQ.out.2.1 HND.out 7 (.slice A3 x.cl.length c3)).set HGQ.out.2.1 HND.out 8 (.slice A4 x.cs.length c4)).set HGQ.out.2.1 HND.out 9 (.slice A5 x.st.length c5)).at_ (List.mem_cons_self ..)) 10 (.slice A6 x.rl.length c6))).trans (AbT.set _ ((((((((((((KD.out.set HGQ.out.2.1 HND.out 0 (txt x.n)).set HGQ.out.2.1 HND.out 1 (.int .i64 x.g.w)).set HGQ.out.2.1 HND.out 2 (.int .i64 x.g.d)).set HGQ.out.2.1 HND.out 3 (.int .i64 x.g.s)).set HGQ.out.2.1 HND.out 4 (.slice A0 x.rm.length c0)).set HGQ.out.2.1 HND.out 5 (.slice A1 x.wk.length c1)).set HGQ.out.2.1 HND.out 6 (.slice A2 x.ps.length c2)).set HGQ.out.2.1 HND.out 7 (.slice A3 x.cl.length c3)).set HGQ.out.2.1 HND.out 8 (.slice A4 x.cs.length c4)).set HGQ.out.2.1 HND.out 9 (.slice A5 x.st.length c5)).set HGQ.out.2.1 HND.out 10 (.slice A6 x.rl.length c6)).at_ (List.mem_cons_self ..)) 11 (.int .i64 x.w0))).trans (AbT.set _ (((((((((((((KD.out.set HGQ.out.2.1 HND.out 0 (txt x.n)).set HGQ.out.2.1 HND.out 1 (.int .i64 x.g.w)).set HGQ.out.2.1 HND.out 2 (.int .i64 x.g.d)).set HGQ.out.2.1 HND.out 3 (.int .i64 x.g.s)).set HGQ.out.2.1 HND.out 4 (.slice A0 x.rm.length c0)).set HGQ.out.2.1 HND.out 5 (.slice A1 x.wk.length c1)).set HGQ.out.2.1 HND.out 6 (.slice A2 x.ps.length c2)).set HGQ.out.2.1 HND.out 7 (.slice A3 x.cl.length c3)).set HGQ.out.2.1 HND.out 8 (.slice A4 x.cs.length c4)).set HGQ.out.2.1 HND.out 9 (.slice A5 x.st.length c5)).set HGQ.out.2.1 HND.out 10 (.slice A6 x.rl.length c6)).set HGQ.out.2.1 HND.out 11 (.int .i64 x.w0)).at_ (List.mem_cons_self ..)) 12 (.int .i64 x.w1))).trans (AbT.set _ ((((((((((((((KD.out.set HGQ.out.2.1 HND.out 0 (txt x.n)).set HGQ.out.2.1 HND.out 1 (.int .i64 x.g.w)).set HGQ.out.2.1 HND.out 2 (.int .i64 x.g.d)).set HGQ.out.2.1 HND.out 3 (.int .i64 x.g.s)).set HGQ.out.2.1 HND.out 4 (.slice A0 x.rm.length c0)).set HGQ.out.2.1 HND.out 5 (.slice A1 x.wk.length c1)).set HGQ.out.2.1 HND.out 6 (.slice A2 x.ps.length c2)).set HGQ.out.2.1 HND.out 7 (.slice A3 x.cl.length c3)).set HGQ.out.2.1 HND.out 8 (.slice A4 x.cs.length c4)).set HGQ.out.2.1 HND.out 9 (.slice A5 x.st.length c5)).set HGQ.out.2.1 HND.out 10 (.slice A6 x.rl.length c6)).set HGQ.out.2.1 HND.out 11 (.int .i64 x.w0)).set HGQ.out.2.1 HND.out 12 (.int .i64 x.w1)).at_ (List.mem_cons_self ..)) 13 (.int .i64 x.w2))).trans (AbT.set _ (((((((((((((((KD.out.set HGQ.out.2.1 HND.out 0 (txt x.n)).set HGQ.out.2.1 HND.out 1 (.int .i64 x.g.w)).set HGQ.out.2.1 HND.out 2 (.int .i64 x.g.d)).set HGQ.out.2.1 HND.out 3 (.int .i64 x.g.s)).set HGQ.out.2.1 HND.out 4 (.slice A0 x.rm.length c0)).set HGQ.out.2.1 HND.out 5 (.slice A1 x.wk.length c1)).set HGQ.out.2.1 HND.out 6 (.slice A2 x.ps.length c2)).set HGQ.out.2.1 HND.out 7 (.slice A3 x.cl.length c3)).set HGQ.out.2.1 HND.out 8 (.slice A4 x.cs.length c4)).set HGQ.out.2.1 HND.out 9 (.slice A5 x.st.length c5)).set HGQ.out.2.1 HND.out 10 (.slice A6 x.rl.length c6)).set HGQ.out.2.1 HND.out 11 (.int .i64 x.w0)).set HGQ.out.2.1 HND.out 12 (.int .i64 x.w1)).set HGQ.out.2.1 HND.out 13 (.int .i64 x.w2)).at_ (List.mem_cons_self ..)) 14 (.int .i64 x.w3))))
          replace HF1 := hid (RowQ.abt (t := 34) (by decide) (OwE_t (by decide)) HF1.out HAB.out)
          replace HF0 := hid (RowQ.abt (t := 34) (by decide) (OwE_t (by decide)) HF0.out HAB.out)
          replace HF2 := hid (RowQ.abt (t := 34) (by decide) (OwE_t (by decide)) HF2.out HAB.out)
          replace HF3 := hid (RowQ.abt (t := 34) (by decide) (ClE_t (by decide) (by decide) (by decide)) HF3.out HAB.out)
          replace HF4 := hid (RowQ.abt (t := 34) (by decide) (CsE_t (by decide) (by decide) (by decide)) HF4.out HAB.out)
          replace HF5 := hid (RowQ.abt (t := 34) (by decide) (OwE_t (by decide)) HF5.out HAB.out)
          replace HF6 := hid (RowQ.abt (t := 34) (by decide) (OwE_t (by decide)) HF6.out HAB.out)
          have r0_ := KR.out.cell (b := D) (cs := [txt x.n, .int .i64 x.g.w, .int .i64 x.g.d, .int .i64 x.g.s, .slice A0 x.rm.length c0, .slice A1 x.wk.length c1, .slice A2 x.ps.length c2, .slice A3 x.cl.length c3, .slice A4 x.cs.length c4, .slice A5 x.st.length c5, .slice A6 x.rl.length c6, .int .i64 x.w0, .int .i64 x.w1, .int .i64 x.w2, .int .i64 x.w3]) (t := 34) (by simp) (k := 0) rfl
          have r1_ := KR.out.cell (b := D) (cs := [txt x.n, .int .i64 x.g.w, .int .i64 x.g.d, .int .i64 x.g.s, .slice A0 x.rm.length c0, .slice A1 x.wk.length c1, .slice A2 x.ps.length c2, .slice A3 x.cl.length c3, .slice A4 x.cs.length c4, .slice A5 x.st.length c5, .slice A6 x.rl.length c6, .int .i64 x.w0, .int .i64 x.w1, .int .i64 x.w2, .int .i64 x.w3]) (t := 34) (by simp) (k := 1) rfl
          have r2_ := KR.out.cell (b := D) (cs := [txt x.n, .int .i64 x.g.w, .int .i64 x.g.d, .int .i64 x.g.s, .slice A0 x.rm.length c0, .slice A1 x.wk.length c1, .slice A2 x.ps.length c2, .slice A3 x.cl.length c3, .slice A4 x.cs.length c4, .slice A5 x.st.length c5, .slice A6 x.rl.length c6, .int .i64 x.w0, .int .i64 x.w1, .int .i64 x.w2, .int .i64 x.w3]) (t := 34) (by simp) (k := 2) rfl
          have r3_ := KR.out.cell (b := D) (cs := [txt x.n, .int .i64 x.g.w, .int .i64 x.g.d, .int .i64 x.g.s, .slice A0 x.rm.length c0, .slice A1 x.wk.length c1, .slice A2 x.ps.length c2, .slice A3 x.cl.length c3, .slice A4 x.cs.length c4, .slice A5 x.st.length c5, .slice A6 x.rl.length c6, .int .i64 x.w0, .int .i64 x.w1, .int .i64 x.w2, .int .i64 x.w3]) (t := 34) (by simp) (k := 3) rfl
          have r4_ := KR.out.cell (b := D) (cs := [txt x.n, .int .i64 x.g.w, .int .i64 x.g.d, .int .i64 x.g.s, .slice A0 x.rm.length c0, .slice A1 x.wk.length c1, .slice A2 x.ps.length c2, .slice A3 x.cl.length c3, .slice A4 x.cs.length c4, .slice A5 x.st.length c5, .slice A6 x.rl.length c6, .int .i64 x.w0, .int .i64 x.w1, .int .i64 x.w2, .int .i64 x.w3]) (t := 34) (by simp) (k := 4) rfl
          have r5_ := KR.out.cell (b := D) (cs := [txt x.n, .int .i64 x.g.w, .int .i64 x.g.d, .int .i64 x.g.s, .slice A0 x.rm.length c0, .slice A1 x.wk.length c1, .slice A2 x.ps.length c2, .slice A3 x.cl.length c3, .slice A4 x.cs.length c4, .slice A5 x.st.length c5, .slice A6 x.rl.length c6, .int .i64 x.w0, .int .i64 x.w1, .int .i64 x.w2, .int .i64 x.w3]) (t := 34) (by simp) (k := 5) rfl
          have r6_ := KR.out.cell (b := D) (cs := [txt x.n, .int .i64 x.g.w, .int .i64 x.g.d, .int .i64 x.g.s, .slice A0 x.rm.length c0, .slice A1 x.wk.length c1, .slice A2 x.ps.length c2, .slice A3 x.cl.length c3, .slice A4 x.cs.length c4, .slice A5 x.st.length c5, .slice A6 x.rl.length c6, .int .i64 x.w0, .int .i64 x.w1, .int .i64 x.w2, .int .i64 x.w3]) (t := 34) (by simp) (k := 6) rfl
          have r7_ := KR.out.cell (b := D) (cs := [txt x.n, .int .i64 x.g.w, .int .i64 x.g.d, .int .i64 x.g.s, .slice A0 x.rm.length c0, .slice A1 x.wk.length c1, .slice A2 x.ps.length c2, .slice A3 x.cl.length c3, .slice A4 x.cs.length c4, .slice A5 x.st.length c5, .slice A6 x.rl.length c6, .int .i64 x.w0, .int .i64 x.w1, .int .i64 x.w2, .int .i64 x.w3]) (t := 34) (by simp) (k := 7) rfl
          have r8_ := KR.out.cell (b := D) (cs := [txt x.n, .int .i64 x.g.w, .int .i64 x.g.d, .int .i64 x.g.s, .slice A0 x.rm.length c0, .slice A1 x.wk.length c1, .slice A2 x.ps.length c2, .slice A3 x.cl.length c3, .slice A4 x.cs.length c4, .slice A5 x.st.length c5, .slice A6 x.rl.length c6, .int .i64 x.w0, .int .i64 x.w1, .int .i64 x.w2, .int .i64 x.w3]) (t := 34) (by simp) (k := 8) rfl
          have r9_ := KR.out.cell (b := D) (cs := [txt x.n, .int .i64 x.g.w, .int .i64 x.g.d, .int .i64 x.g.s, .slice A0 x.rm.length c0, .slice A1 x.wk.length c1, .slice A2 x.ps.length c2, .slice A3 x.cl.length c3, .slice A4 x.cs.length c4, .slice A5 x.st.length c5, .slice A6 x.rl.length c6, .int .i64 x.w0, .int .i64 x.w1, .int .i64 x.w2, .int .i64 x.w3]) (t := 34) (by simp) (k := 9) rfl
          have r10_ := KR.out.cell (b := D) (cs := [txt x.n, .int .i64 x.g.w, .int .i64 x.g.d, .int .i64 x.g.s, .slice A0 x.rm.length c0, .slice A1 x.wk.length c1, .slice A2 x.ps.length c2, .slice A3 x.cl.length c3, .slice A4 x.cs.length c4, .slice A5 x.st.length c5, .slice A6 x.rl.length c6, .int .i64 x.w0, .int .i64 x.w1, .int .i64 x.w2, .int .i64 x.w3]) (t := 34) (by simp) (k := 10) rfl
          have r11_ := KR.out.cell (b := D) (cs := [txt x.n, .int .i64 x.g.w, .int .i64 x.g.d, .int .i64 x.g.s, .slice A0 x.rm.length c0, .slice A1 x.wk.length c1, .slice A2 x.ps.length c2, .slice A3 x.cl.length c3, .slice A4 x.cs.length c4, .slice A5 x.st.length c5, .slice A6 x.rl.length c6, .int .i64 x.w0, .int .i64 x.w1, .int .i64 x.w2, .int .i64 x.w3]) (t := 34) (by simp) (k := 11) rfl
          have r12_ := KR.out.cell (b := D) (cs := [txt x.n, .int .i64 x.g.w, .int .i64 x.g.d, .int .i64 x.g.s, .slice A0 x.rm.length c0, .slice A1 x.wk.length c1, .slice A2 x.ps.length c2, .slice A3 x.cl.length c3, .slice A4 x.cs.length c4, .slice A5 x.st.length c5, .slice A6 x.rl.length c6, .int .i64 x.w0, .int .i64 x.w1, .int .i64 x.w2, .int .i64 x.w3]) (t := 34) (by simp) (k := 12) rfl
          have r13_ := KR.out.cell (b := D) (cs := [txt x.n, .int .i64 x.g.w, .int .i64 x.g.d, .int .i64 x.g.s, .slice A0 x.rm.length c0, .slice A1 x.wk.length c1, .slice A2 x.ps.length c2, .slice A3 x.cl.length c3, .slice A4 x.cs.length c4, .slice A5 x.st.length c5, .slice A6 x.rl.length c6, .int .i64 x.w0, .int .i64 x.w1, .int .i64 x.w2, .int .i64 x.w3]) (t := 34) (by simp) (k := 13) rfl
          have r14_ := KR.out.cell (b := D) (cs := [txt x.n, .int .i64 x.g.w, .int .i64 x.g.d, .int .i64 x.g.s, .slice A0 x.rm.length c0, .slice A1 x.wk.length c1, .slice A2 x.ps.length c2, .slice A3 x.cl.length c3, .slice A4 x.cs.length c4, .slice A5 x.st.length c5, .slice A6 x.rl.length c6, .int .i64 x.w0, .int .i64 x.w1, .int .i64 x.w2, .int .i64 x.w3]) (t := 34) (by simp) (k := 14) rfl
          clear KD HAB HND HGQ HGD HQx HNE HBcl HBcs HWk HCrm HCps HCcl HCst HCrl f0 f1 f2 f3 f4 f5 f6
          go_wp2_with fail
          clear f0_ z0_ e0_ f1_ z1_ e1_ f2_ z2_ e2_ f3_ z3_ e3_ f4_ z4_ e4_ f5_ z5_ e5_ f6_ z6_ e6_ f7_ z7_ e7_ f8_ z8_ e8_ f9_ z9_ e9_ f10_ z10_ e10_ f11_ z11_ e11_ f12_ z12_ e12_ f13_ z13_ e13_ f14_ z14_ e14_
          refine AH.out _ _ ?_
          obtain ⟨l0, k0, n0, o0, E0⟩ := HF0.out
          obtain ⟨l2, k2, n2, o2, E2⟩ := HF2.out
          obtain ⟨l3, k3, n3, o3, E3⟩ := HF3.out
          obtain ⟨l4, k4, n4, o4, E4⟩ := HF4.out
          obtain ⟨l5, k5, n5, o5, E5⟩ := HF5.out
          obtain ⟨l6, k6, n6, o6, E6⟩ := HF6.out
          have hp : (⟨x.n, x.g, l0, x.wk, l2, l3, l4, l5, l6, x.w0, x.w1, x.w2, x.w3, A0, c0, A1, c1, A2, c2, A3, c3, A4, c4, A5, c5, A6, c6⟩ : PbA).p = x.p := by
           show Pb.mk _ _ (l0.map _) _ (l2.map _) (l3.map _) (l4.map _) (l5.map _) (l6.map _) _ _ _ _ = _
           rw [k0, k2, k3, k4, k5, k6]
           rfl
          have hown : PbOwn w.heap.size R (⟨x.n, x.g, l0, x.wk, l2, l3, l4, l5, l6, x.w0, x.w1, x.w2, x.w3, A0, c0, A1, c1, A2, c2, A3, c3, A4, c4, A5, c5, A6, c6⟩ : PbA) := by
           constructor
           · rw [← n0] at o0; exact o0
           · exact E0
           · exact HF1.out
           · rw [← n2] at o2; exact o2
           · exact E2
           · rw [← n3] at o3; exact o3
           · exact E3
           · rw [← n4] at o4; exact o4
           · exact E4
           · rw [← n5] at o5; exact o5
           · exact E5
           · rw [← n6] at o6; exact o6
           · exact E6
          have hv : pbv (⟨x.n, x.g, l0, x.wk, l2, l3, l4, l5, l6, x.w0, x.w1, x.w2, x.w3, A0, c0, A1, c1, A2, c2, A3, c3, A4, c4, A5, c5, A6, c6⟩ : PbA) = .agg #[txt x.n, .int .i64 x.g.w, .int .i64 x.g.d, .int .i64 x.g.s, .slice A0 x.rm.length c0, .slice A1 x.wk.length c1, .slice A2 x.ps.length c2, .slice A3 x.cl.length c3, .slice A4 x.cs.length c4, .slice A5 x.st.length c5, .slice A6 x.rl.length c6, .int .i64 x.w0, .int .i64 x.w1, .int .i64 x.w2, .int .i64 x.w3] := by
           show Value.agg #[_, _, _, _, .slice A0 l0.length c0, _, .slice A2 l2.length c2, .slice A3 l3.length c3, .slice A4 l4.length c4, .slice A5 l5.length c5, .slice A6 l6.length c6, _, _, _, _] = _
           rw [n0, n2, n3, n4, n5, n6]
          refine wp_ret ?_
          exact bodyPost_ret (v := .agg #[txt x.n, .int .i64 x.g.w, .int .i64 x.g.d, .int .i64 x.g.s, .slice A0 x.rm.length c0, .slice A1 x.wk.length c1, .slice A2 x.ps.length c2, .slice A3 x.cl.length c3, .slice A4 x.cs.length c4, .slice A5 x.st.length c5, .slice A6 x.rl.length c6, .int .i64 x.w0, .int .i64 x.w1, .int .i64 x.w2, .int .i64 x.w3]) (by simp [results, Tryz.results17, go_sem, r0_, r1_, r2_, r3_, r4_, r5_, r6_, r7_, r8_, r9_, r10_, r11_, r12_, r13_, r14_]) rfl ⟨_, by rw [hv], hp, hown, hown.within HI.out hp, KR.out.2⟩
end Go.Proofs.YtgmgccepmalahaaGreat
