/- What the proof of ProblemCopies stands on, part 27. -/
import Derived.Test.YtgmgccepmalahaaGreatCpAR
import Derived.Test.YtgmgccepmalahaaGreatCpAV
import Derived.Test.YtgmgccepmalahaaGreatCpAX
import Derived.Test.YtgmgccepmalahaaGreatCpAY
namespace Go.Proofs.YtgmgccepmalahaaGreat
open Go.RowKit
open Whn (Gr Wh)
section
variable {b : Nat} {X wr : World} {α : Type} {en : α → List Value} {K e n c k j : Nat} {ad : Addr} {l : List α} {z : α} {v : Value}
theorem Spl.elem (hK : ∀ x, (en x).length = K) (h : Spl T17 b X wr) (ho : X.ownsRow b e K (.slice (some ad) n c) n (ecells en l)) (hT : e ∉ T17) (hz : l[k]? = some z) (hj : 0 < j ∧ j < K) (hv : (en z)[j]? = some v) : wr.cell? ⟨(ad.add (k * K)).block, (ad.add (k * K)).off + j, none⟩ = some v := by
 have := h.same ho hT (k := k * K + j) ((ecells_get hK l k z hz j hj.2).trans hv)
 rwa [add_fld17 _ _ _ hj.1] at this
theorem Spl.elem0 (hK : ∀ x, (en x).length = K) (h : Spl T17 b X wr) (ho : X.ownsRow b e K (.slice (some ad) n c) n (ecells en l)) (hT : e ∉ T17) (hz : l[k]? = some z) (hj : 0 < K) (hv : (en z)[0]? = some v) : wr.cell? (ad.add (k * K)) = some v := by
 exact h.same ho hT (k := k * K) ((ecells_get hK l k z hz 0 hj).trans hv)
theorem Spl.elemS (hK : ∀ x, (en x).length = K) (h : Spl T17 b X wr) (ho : X.ownsRow b e K (.slice (some ad) n c) n (ecells en l)) (hz : l[k]? = some z) (hj : 0 < j ∧ j < K) {A : Option Addr} {m d : Nat} (hv : (en z)[j]? = some (.slice A m d)) : wr.cell? ⟨(ad.add (k * K)).block, (ad.add (k * K)).off + j, none⟩ = some (.slice A m d) := by
 have := h.slice ho (k := k * K + j) ((ecells_get hK l k z hz j hj.2).trans hv)
 rwa [add_fld17 _ _ _ hj.1] at this
theorem Spl.elem1 (hK : ∀ x, (en x).length = 1) (h : Spl T17 b X wr) (ho : X.ownsRow b e 1 (.slice (some ad) n c) n (ecells en l)) (hT : e ∉ T17) (hz : l[k]? = some z) (hv : (en z)[0]? = some v) : wr.cell? (ad.add k) = some v := by
 refine h.same ho hT (k := k) ?_
 have := ecells_get hK l k z hz 0 (by decide)
 rw [Nat.mul_one, Nat.add_zero] at this
 exact this.trans hv
end
structure LawC (x q q0 : PbA) (w X : World) (b G D C : Nat) : Prop where
 own : PbOwn b X q
 obC : Ob X C (pbc q) 34
 bC : b ≤ C
 few : PbFew q
 nm : ∀ z ∈ q.rm, (bs z.r.n).size ≤ 9223372036854775806
 same : x.p = q0.p
 fin : ∀ wr, Spl T17 b X wr → Ob wr G (pbc x) 34 ∧ Ob wr D (pbc q0) 34 ∧ PbIn wr x ∧ PbIn wr q0 ∧ Below w.heap.size w wr
end Go.Proofs.YtgmgccepmalahaaGreat
namespace Go.Proofs.YtgmgccepmalahaaGreat
open Go.RowKit
open Whn (Gr Wh)
set_option linter.unusedVariables false
set_option maxRecDepth 40000 in
set_option maxHeartbeats 32000000 in
theorem law17_end (x y q q0 : PbA) (w X wr : World) (b G F D C : Nat) (hE : LawC x q q0 w X b G D C) (hS : Spl T17 b X wr) {u7 u8 u9 u10 u11 u12 u13 u14 u15 u16 u17 u18 u19 u20 u21 u22 u23 u24 u25 u26 u27 u28 u29 u30 u31 u32 u33 u34 u35 u36 u37 u38 u39 u40 u41 u42 u43 u44 u45 u46 u47 u48 u49 u50 u51 u52 u53 u54 u55 u56 u57 u58 u59 u60 u61 u62 u63 u64 u65 u66 u67 u68 u69 u70 u71 u72 u73 u74 u75 u76 u77 u78 u79 u80 u81 u82 u83 u84 u85 u86 u87 u88 u89 u90 u91 u92 u93 u94 u95 u96 u97 u98 u99 u100 u101 u102 u103 u104 u105 u106 u107 u108 u109 u110 u111 u112 u113 u114 u115 u116 u117 u118 u119 u120 u121 u122 u123 u124 u125 u126 u127 u128 u129 u130 u131 u132 u133 u134 u135 u136 u137 u138 u139 u140 u141 u142 u143 u144 u145 u146 u147 u148 u149 u150 u151 u152 u153 u154 u155 u156 u157 u158 u159 u160 u161 u162 u163 u164 u165 u166 u167 u168 u169 u170 u171 u172 u173 u174 u175 u176 u177 u178 u179 u180 u181 u182 u183 u184 u185 u186 u187 u188 u189 u190 u191 u192 u193 u194 u195 u196 u197 u198 u199 u200 u201 u202 u203 u204 u205 u206 u207 u208 u209 u210 u211 u212 u213 u214 u215 u216 u217 u218 u219 u220 u221 u222 u223 u224 u225 u226 u227 u228 u229 u230 u231 u232 u233 u234 u235 : Value} :
    Code.wp Tryz.prog (rest17 12 (body17 Tryz.f5)) (bodyPost Tryz.prog Tryz.f5 (Did (.bool true) w)) ⟨#[pbv x, pbv y, .pointer (some ⟨G, 0, none⟩), .pointer (some ⟨F, 0, none⟩), .bool false, .pointer (some ⟨D, 0, none⟩), .pointer (some ⟨C, 0, none⟩), u7, u8, u9, u10, u11, u12, u13, u14, u15, u16, u17, u18, u19, u20, u21, u22, u23, u24, u25, u26, u27, u28, u29, u30, u31, u32, u33, u34, u35, u36, u37, u38, u39, u40, u41, u42, u43, u44, u45, u46, u47, u48, u49, u50, u51, u52, u53, u54, u55, u56, u57, u58, u59, u60, u61, u62, u63, u64, u65, u66, u67, u68, u69, u70, u71, u72, u73, u74, u75, u76, u77, u78, u79, u80, u81, u82, u83, u84, u85, u86, u87, u88, u89, u90, u91, u92, u93, u94, u95, u96, u97, u98, u99, u100, u101, u102, u103, u104, u105, u106, u107, u108, u109, u110, u111, u112, u113, u114, u115, u116, u117, u118, u119, u120, u121, u122, u123, u124, u125, u126, u127, u128, u129, u130, u131, u132, u133, u134, u135, u136, u137, u138, u139, u140, u141, u142, u143, u144, u145, u146, u147, u148, u149, u150, u151, u152, u153, u154, u155, u156, u157, u158, u159, u160, u161, u162, u163, u164, u165, u166, u167, u168, u169, u170, u171, u172, u173, u174, u175, u176, u177, u178, u179, u180, u181, u182, u183, u184, u185, u186, u187, u188, u189, u190, u191, u192, u193, u194, u195, u196, u197, u198, u199, u200, u201, u202, u203, u204, u205, u206, u207, u208, u209, u210, u211, u212, u213, u214, u215, u216, u217, u218, u219, u220, u221, u222, u223, u224, u225, u226, u227, u228, u229, u230, u231, u232, u233, u234, u235], []⟩ wr := by
 have HH := hid (fun X => heads17 X)
 obtain ⟨oG, oD, iX, iQ, bw⟩ := hE.fin wr hS
 have HR := hid (r17_Same x q0 wr iX iQ)
 have HB := hid bw
 have Hs := hid hE.same
 have p0 := oG.cell (k := 0) rfl
 have s0 := oD.cell (k := 0) rfl
 have p1 := oG.cell (k := 1) rfl
 have s1 := oD.cell (k := 1) rfl
 have p2 := oG.cell (k := 2) rfl
 have s2 := oD.cell (k := 2) rfl
 have p3 := oG.cell (k := 3) rfl
 have s3 := oD.cell (k := 3) rfl
 have p4 := oG.cell (k := 4) rfl
 have s4 := oD.cell (k := 4) rfl
 have p5 := oG.cell (k := 5) rfl
 have s5 := oD.cell (k := 5) rfl
 have p6 := oG.cell (k := 6) rfl
 have s6 := oD.cell (k := 6) rfl
 have p7 := oG.cell (k := 7) rfl
 have s7 := oD.cell (k := 7) rfl
 have p8 := oG.cell (k := 8) rfl
 have s8 := oD.cell (k := 8) rfl
 have p9 := oG.cell (k := 9) rfl
 have s9 := oD.cell (k := 9) rfl
 have p10 := oG.cell (k := 10) rfl
 have s10 := oD.cell (k := 10) rfl
 have p11 := oG.cell (k := 11) rfl
 have s11 := oD.cell (k := 11) rfl
 have p12 := oG.cell (k := 12) rfl
 have s12 := oD.cell (k := 12) rfl
 have p13 := oG.cell (k := 13) rfl
 have s13 := oD.cell (k := 13) rfl
 have p14 := oG.cell (k := 14) rfl
 have s14 := oD.cell (k := 14) rfl
 clear hE hS oG oD iX iQ bw
 conv => arg 2; whnf
 go_wp2_with fail
 refine HR.out.mono ?_
 rintro e Y ⟨b1, rfl, hb, bz⟩
 obtain rfl : b1 = true := hb.2 Hs.out
 have H1 := hid (HB.out.trans (bz.mono HB.out.size))
 clear hb bz HB HR p0 s0 p1 s1 p2 s2 p3 s3 p4 s4 p5 s5 p6 s6 p7 s7 p8 s8 p9 s9 p10 s10 p11 s11 p12 s12 p13 s13 p14 s14
 go_wp2_with fail
 refine (HH.out _).mono ?_
 rintro e Y1 ⟨rfl, bz⟩
 have H2 := hid (H1.out.trans (bz.mono H1.out.size))
 go_wp2_with fail
 go_ret
 exact Did.mk rfl H2.out
set_option maxRecDepth 40000 in
set_option maxHeartbeats 32000000 in
theorem law17_rl (x y q q0 : PbA) (w X wr : World) (b G F D C : Nat) (hE : LawC x q q0 w X b G D C) (hS : Spl T17 b X wr) {u7 u8 u9 u10 u11 u12 u13 u14 u15 u16 u17 u18 u19 u20 u21 u22 u23 u24 u25 u26 u27 u28 u29 u30 u31 u32 u33 u34 u35 u36 u37 u38 u39 u40 u41 u42 u43 u44 u45 u46 u47 u48 u49 u50 u51 u52 u53 u54 u55 u56 u57 u58 u59 u60 u61 u62 u63 u64 u65 u66 u67 u68 u69 u70 u71 u72 u73 u74 u75 u76 u77 u78 u79 u80 u81 u82 u83 u84 u85 u86 u87 u88 u89 u90 u91 u92 u93 u94 u95 u96 u97 u98 u99 u100 u101 u102 u103 u104 u105 u106 u107 u108 u109 u110 u111 u112 u113 u114 u115 u116 u117 u118 u119 u120 u121 u122 u123 u124 u125 u126 u127 u128 u129 u130 u131 u132 u133 u134 u135 u136 u137 u138 u139 u140 u141 u142 u143 u144 u145 u146 u147 u148 u149 u150 u151 u152 u153 u154 u155 u156 u157 u158 u159 u160 u161 u162 u163 u164 u165 u166 u167 u168 u169 u170 u171 u172 u173 u174 u175 u176 u177 u178 u179 u180 u181 u182 u183 u184 u185 u186 u187 u188 u189 u190 u191 u192 u193 u194 u195 u196 u197 u198 u199 u200 u201 u202 u203 u204 u205 u206 u207 u208 u209 u210 u211 u212 u213 u214 u215 u216 u217 u218 u219 u220 u221 u222 u223 u224 u225 u226 u227 u228 u229 u230 u231 u232 u233 u234 u235 : Value} :
    Code.wp Tryz.prog (rest17 11 (body17 Tryz.f5)) (bodyPost Tryz.prog Tryz.f5 (Did (.bool true) w)) ⟨#[pbv x, pbv y, .pointer (some ⟨G, 0, none⟩), .pointer (some ⟨F, 0, none⟩), .bool false, .pointer (some ⟨D, 0, none⟩), .pointer (some ⟨C, 0, none⟩), u7, u8, u9, u10, u11, u12, u13, u14, u15, u16, u17, u18, u19, u20, u21, u22, u23, u24, u25, u26, u27, u28, u29, u30, u31, u32, u33, u34, u35, u36, u37, u38, u39, u40, u41, u42, u43, u44, u45, u46, u47, u48, u49, u50, u51, u52, u53, u54, u55, u56, u57, u58, u59, u60, u61, u62, u63, u64, u65, u66, u67, u68, u69, u70, u71, u72, u73, u74, u75, u76, u77, u78, u79, u80, u81, u82, u83, u84, u85, u86, u87, u88, u89, u90, u91, u92, u93, u94, u95, u96, u97, u98, u99, u100, u101, u102, u103, u104, u105, u106, u107, u108, u109, u110, u111, u112, u113, u114, u115, u116, u117, u118, u119, u120, u121, u122, u123, u124, u125, u126, u127, u128, u129, u130, u131, u132, u133, u134, u135, u136, u137, u138, u139, u140, u141, u142, u143, u144, u145, u146, u147, u148, u149, u150, u151, u152, u153, u154, u155, u156, u157, u158, u159, u160, u161, u162, u163, u164, u165, u166, u167, u168, u169, u170, u171, u172, u173, u174, u175, u176, u177, u178, u179, u180, u181, u182, u183, u184, u185, u186, u187, u188, u189, u190, u191, u192, u193, u194, u195, u196, u197, u198, u199, u200, u201, u202, u203, u204, u205, u206, u207, u208, u209, u210, u211, u212, u213, u214, u215, u216, u217, u218, u219, u220, u221, u222, u223, u224, u225, u226, u227, u228, u229, u230, u231, u232, u233, u234, u235], []⟩ wr := by
 have HE := hid hE
 have HS0 := hid hS
 clear hE hS
 conv => arg 2; whnf
 go_wp2_with fail
 rename_i Kx a2
 have AH := hid a2
 clear a2
 go_loopw [18] (fun iv wr => ∃ k : Nat, iv = .int .i64 ((k : Nat) : Int) ∧ k ≤ q.rl.length ∧ Hid (Spl T17 b X wr)) (fun iv _ => q.rl.length - (intOf iv).toNat)
 case atStart => exact ⟨0, rfl, Nat.zero_le _, HS0⟩
 case round =>
  clear HS0
  obtain ⟨k, rfl, hk, HS⟩ := hrel
  have pC := (HS.out.ob HE.out.obC HE.out.bC (by decide)).cell (k := 10) rfl
  by_cases hlt : k < q.rl.length
  · skip
    have hN := HE.out.few.2.2.2.2.2.2
    have b1 : (0 : Int) ≤ (k : Int) := by omega
    have b2 : (k : Int) < (q.rl.length : Nat) := by omega
    have b3 : (k : Int) + 1 ≤ 9223372036854775807 := by omega
    obtain ⟨ad, ea⟩ := own_some17 HE.out.own.rl (by omega)
    have O := HE.out.own.rl
    rw [ea] at O pC
    obtain ⟨z, hz⟩ : ∃ z, q.rl[k]? = some z := ⟨_, List.getElem?_eq_getElem (show k < q.rl.length by omega)⟩
    have hzl : z ∈ q.rl := List.mem_of_getElem? hz
    have c0 := HS.out.elem (en := enU) (K := 6) (j := 1) (v := .slice z.r z.x.l.length z.c) (fun _ => rfl) O (by decide) hz (by decide) rfl
    have HT := hid (p_turn b X z.x.l z.r z.c (Nat.le_trans (own_rdK (HE.out.own.rlE z hzl)).2.1 (own_rdK (HE.out.own.rlE z hzl)).2.2) (HE.out.own.rlE z hzl) wr HS.out)
    clear O ea hz hzl hN
    go_wp2_with fail
    refine HT.out.mono ?_
    rintro e Y ⟨rfl, hs, hk2⟩
    have HS2 := hid hs
    clear hs hk2 HS HT pC c0
    go_wp2_with fail
    exact ⟨⟨k + 1, by go_num, by omega, HS2⟩, by simp [intOf]; omega⟩
  · obtain rfl : k = q.rl.length := by omega
    have b2 : ¬ ((q.rl.length : Nat) : Int) < (q.rl.length : Nat) := by omega
    go_wp2_with fail
    refine AH.out _ _ ?_
    exact law17_end x y q q0 w X _ b G F D C HE.out HS.out
set_option maxRecDepth 40000 in
set_option maxHeartbeats 32000000 in
theorem law17_st (x y q q0 : PbA) (w X wr : World) (b G F D C : Nat) (hE : LawC x q q0 w X b G D C) (hS : Spl T17 b X wr) {u7 u8 u9 u10 u11 u12 u13 u14 u15 u16 u17 u18 u19 u20 u21 u22 u23 u24 u25 u26 u27 u28 u29 u30 u31 u32 u33 u34 u35 u36 u37 u38 u39 u40 u41 u42 u43 u44 u45 u46 u47 u48 u49 u50 u51 u52 u53 u54 u55 u56 u57 u58 u59 u60 u61 u62 u63 u64 u65 u66 u67 u68 u69 u70 u71 u72 u73 u74 u75 u76 u77 u78 u79 u80 u81 u82 u83 u84 u85 u86 u87 u88 u89 u90 u91 u92 u93 u94 u95 u96 u97 u98 u99 u100 u101 u102 u103 u104 u105 u106 u107 u108 u109 u110 u111 u112 u113 u114 u115 u116 u117 u118 u119 u120 u121 u122 u123 u124 u125 u126 u127 u128 u129 u130 u131 u132 u133 u134 u135 u136 u137 u138 u139 u140 u141 u142 u143 u144 u145 u146 u147 u148 u149 u150 u151 u152 u153 u154 u155 u156 u157 u158 u159 u160 u161 u162 u163 u164 u165 u166 u167 u168 u169 u170 u171 u172 u173 u174 u175 u176 u177 u178 u179 u180 u181 u182 u183 u184 u185 u186 u187 u188 u189 u190 u191 u192 u193 u194 u195 u196 u197 u198 u199 u200 u201 u202 u203 u204 u205 u206 u207 u208 u209 u210 u211 u212 u213 u214 u215 u216 u217 u218 u219 u220 u221 u222 u223 u224 u225 u226 u227 u228 u229 u230 u231 u232 u233 u234 u235 : Value} :
    Code.wp Tryz.prog (rest17 10 (body17 Tryz.f5)) (bodyPost Tryz.prog Tryz.f5 (Did (.bool true) w)) ⟨#[pbv x, pbv y, .pointer (some ⟨G, 0, none⟩), .pointer (some ⟨F, 0, none⟩), .bool false, .pointer (some ⟨D, 0, none⟩), .pointer (some ⟨C, 0, none⟩), u7, u8, u9, u10, u11, u12, u13, u14, u15, u16, u17, u18, u19, u20, u21, u22, u23, u24, u25, u26, u27, u28, u29, u30, u31, u32, u33, u34, u35, u36, u37, u38, u39, u40, u41, u42, u43, u44, u45, u46, u47, u48, u49, u50, u51, u52, u53, u54, u55, u56, u57, u58, u59, u60, u61, u62, u63, u64, u65, u66, u67, u68, u69, u70, u71, u72, u73, u74, u75, u76, u77, u78, u79, u80, u81, u82, u83, u84, u85, u86, u87, u88, u89, u90, u91, u92, u93, u94, u95, u96, u97, u98, u99, u100, u101, u102, u103, u104, u105, u106, u107, u108, u109, u110, u111, u112, u113, u114, u115, u116, u117, u118, u119, u120, u121, u122, u123, u124, u125, u126, u127, u128, u129, u130, u131, u132, u133, u134, u135, u136, u137, u138, u139, u140, u141, u142, u143, u144, u145, u146, u147, u148, u149, u150, u151, u152, u153, u154, u155, u156, u157, u158, u159, u160, u161, u162, u163, u164, u165, u166, u167, u168, u169, u170, u171, u172, u173, u174, u175, u176, u177, u178, u179, u180, u181, u182, u183, u184, u185, u186, u187, u188, u189, u190, u191, u192, u193, u194, u195, u196, u197, u198, u199, u200, u201, u202, u203, u204, u205, u206, u207, u208, u209, u210, u211, u212, u213, u214, u215, u216, u217, u218, u219, u220, u221, u222, u223, u224, u225, u226, u227, u228, u229, u230, u231, u232, u233, u234, u235], []⟩ wr := by
 have HE := hid hE
 have HS0 := hid hS
 clear hE hS
 conv => arg 2; whnf
 go_wp2_with fail
 rename_i Kx a2
 have AH := hid a2
 clear a2
 go_loopw [17] (fun iv wr => ∃ k : Nat, iv = .int .i64 ((k : Nat) : Int) ∧ k ≤ q.st.length ∧ Hid (Spl T17 b X wr)) (fun iv _ => q.st.length - (intOf iv).toNat)
 case atStart => exact ⟨0, rfl, Nat.zero_le _, HS0⟩
 case round =>
  clear HS0
  obtain ⟨k, rfl, hk, HS⟩ := hrel
  have pC := (HS.out.ob HE.out.obC HE.out.bC (by decide)).cell (k := 9) rfl
  by_cases hlt : k < q.st.length
  · skip
    have hN := HE.out.few.2.2.2.2.2.1
    have b1 : (0 : Int) ≤ (k : Int) := by omega
    have b2 : (k : Int) < (q.st.length : Nat) := by omega
    have b3 : (k : Int) + 1 ≤ 9223372036854775807 := by omega
    obtain ⟨ad, ea⟩ := own_some17 HE.out.own.st (by omega)
    have O := HE.out.own.st
    rw [ea] at O pC
    obtain ⟨z, hz⟩ : ∃ z, q.st[k]? = some z := ⟨_, List.getElem?_eq_getElem (show k < q.st.length by omega)⟩
    have hzl : z ∈ q.st := List.mem_of_getElem? hz
    have c0 := HS.out.elem (en := enS) (K := 2) (j := 1) (v := .slice z.a z.x.l.length z.c) (fun _ => rfl) O (by decide) hz (by decide) rfl
    have HT := hid (p_turn b X z.x.l z.a z.c (Nat.le_trans (own_rdK (HE.out.own.stE z hzl)).2.1 (own_rdK (HE.out.own.stE z hzl)).2.2) (HE.out.own.stE z hzl) wr HS.out)
    clear O ea hz hzl hN
    go_wp2_with fail
    refine HT.out.mono ?_
    rintro e Y ⟨rfl, hs, hk2⟩
    have HS2 := hid hs
    clear hs hk2 HS HT pC c0
    go_wp2_with fail
    exact ⟨⟨k + 1, by go_num, by omega, HS2⟩, by simp [intOf]; omega⟩
  · obtain rfl : k = q.st.length := by omega
    have b2 : ¬ ((q.st.length : Nat) : Int) < (q.st.length : Nat) := by omega
    go_wp2_with fail
    refine AH.out _ _ ?_
    exact law17_rl x y q q0 w X _ b G F D C HE.out HS.out
end Go.Proofs.YtgmgccepmalahaaGreat
namespace Go.Proofs.YtgmgccepmalahaaGreat
open Go.RowKit
open Whn (Gr Wh)
theorem cell_far17 {w : World} {g g2 i j : Nat} (h : g2 ≠ g ∨ i ≠ j) (v : Value) : (w.setCell ⟨g2, i, none⟩ v).cell? ⟨g, j, none⟩ = w.cell? ⟨g, j, none⟩ := by
 by_cases hg : g2 = g
 · subst hg
   have hij : i ≠ j := by rcases h with h | h; exact absurd rfl h; exact h
   by_cases hlt : g2 < w.heap.size
   · cases e : w.heap[g2] with
     | cells cs t m => simp [World.setCell, World.cell?, hlt, Array.getElem_modify_self, e, Array.getElem?_setIfInBounds_ne hij]
     | _ => simp [World.setCell, World.cell?, hlt, Array.getElem_modify_self, e]
   · simp [World.setCell, World.cell?, hlt]
 · simp [World.setCell, World.cell?, Array.getElem?_modify, hg]
section
variable {X Y : World} {b b2 e e2 K K2 n n2 c c2 : Nat} {ad ad2 : Addr} {xs ys : List Value}
theorem own_far17 (h : X.ownsRow b e K (.slice (some ad) n c) n xs) (h2 : X.ownsRow b2 e2 K2 (.slice (some ad2) n2 c2) n2 ys) (he : e ≠ e2) (i j : Nat) (v : Value) : (Y.setCell (ad2.add i) v).cell? (ad.add j) = Y.cell? (ad.add j) := by
 obtain ⟨g, cur, rfl, _, hg, _⟩ := own_block17 h
 obtain ⟨g2, cur2, rfl, _, hg2, _⟩ := own_block17 h2
 rw [add_zero17, add_zero17]
 refine cell_far17 (.inl fun ee => ?_) v
 subst ee
 rw [hg] at hg2
 injection hg2 with hg2
 injection hg2 with _ h3
 exact he h3
theorem own_apart17 (h : X.ownsRow b e K (.slice (some ad) n c) n xs) {i j : Nat} (hij : i ≠ j) (v : Value) : (Y.setCell (ad.add i) v).cell? (ad.add j) = Y.cell? (ad.add j) := by
 obtain ⟨g, cur, rfl, _, hg, _⟩ := own_block17 h
 rw [add_zero17, add_zero17]
 exact cell_far17 (.inr hij) v
end
def Nm17 (q : PbA) (ad : Addr) (k : Nat) (wr : World) : Prop := ∀ j z, k ≤ j → q.rm[j]? = some z → wr.cell? (ad.add (j * 4)) = some (txt z.r.n)
end Go.Proofs.YtgmgccepmalahaaGreat
namespace Go.Proofs.YtgmgccepmalahaaGreat
open Go.RowKit
open Whn (Gr Wh)
set_option linter.unusedVariables false
set_option maxRecDepth 40000 in
set_option maxHeartbeats 32000000 in
theorem law17_cs (x y q q0 : PbA) (w X wr : World) (b G F D C : Nat) (hE : LawC x q q0 w X b G D C) (hS : Spl T17 b X wr) {u7 u8 u9 u10 u11 u12 u13 u14 u15 u16 u17 u18 u19 u20 u21 u22 u23 u24 u25 u26 u27 u28 u29 u30 u31 u32 u33 u34 u35 u36 u37 u38 u39 u40 u41 u42 u43 u44 u45 u46 u47 u48 u49 u50 u51 u52 u53 u54 u55 u56 u57 u58 u59 u60 u61 u62 u63 u64 u65 u66 u67 u68 u69 u70 u71 u72 u73 u74 u75 u76 u77 u78 u79 u80 u81 u82 u83 u84 u85 u86 u87 u88 u89 u90 u91 u92 u93 u94 u95 u96 u97 u98 u99 u100 u101 u102 u103 u104 u105 u106 u107 u108 u109 u110 u111 u112 u113 u114 u115 u116 u117 u118 u119 u120 u121 u122 u123 u124 u125 u126 u127 u128 u129 u130 u131 u132 u133 u134 u135 u136 u137 u138 u139 u140 u141 u142 u143 u144 u145 u146 u147 u148 u149 u150 u151 u152 u153 u154 u155 u156 u157 u158 u159 u160 u161 u162 u163 u164 u165 u166 u167 u168 u169 u170 u171 u172 u173 u174 u175 u176 u177 u178 u179 u180 u181 u182 u183 u184 u185 u186 u187 u188 u189 u190 u191 u192 u193 u194 u195 u196 u197 u198 u199 u200 u201 u202 u203 u204 u205 u206 u207 u208 u209 u210 u211 u212 u213 u214 u215 u216 u217 u218 u219 u220 u221 u222 u223 u224 u225 u226 u227 u228 u229 u230 u231 u232 u233 u234 u235 : Value} :
    Code.wp Tryz.prog (rest17 9 (body17 Tryz.f5)) (bodyPost Tryz.prog Tryz.f5 (Did (.bool true) w)) ⟨#[pbv x, pbv y, .pointer (some ⟨G, 0, none⟩), .pointer (some ⟨F, 0, none⟩), .bool false, .pointer (some ⟨D, 0, none⟩), .pointer (some ⟨C, 0, none⟩), u7, u8, u9, u10, u11, u12, u13, u14, u15, u16, u17, u18, u19, u20, u21, u22, u23, u24, u25, u26, u27, u28, u29, u30, u31, u32, u33, u34, u35, u36, u37, u38, u39, u40, u41, u42, u43, u44, u45, u46, u47, u48, u49, u50, u51, u52, u53, u54, u55, u56, u57, u58, u59, u60, u61, u62, u63, u64, u65, u66, u67, u68, u69, u70, u71, u72, u73, u74, u75, u76, u77, u78, u79, u80, u81, u82, u83, u84, u85, u86, u87, u88, u89, u90, u91, u92, u93, u94, u95, u96, u97, u98, u99, u100, u101, u102, u103, u104, u105, u106, u107, u108, u109, u110, u111, u112, u113, u114, u115, u116, u117, u118, u119, u120, u121, u122, u123, u124, u125, u126, u127, u128, u129, u130, u131, u132, u133, u134, u135, u136, u137, u138, u139, u140, u141, u142, u143, u144, u145, u146, u147, u148, u149, u150, u151, u152, u153, u154, u155, u156, u157, u158, u159, u160, u161, u162, u163, u164, u165, u166, u167, u168, u169, u170, u171, u172, u173, u174, u175, u176, u177, u178, u179, u180, u181, u182, u183, u184, u185, u186, u187, u188, u189, u190, u191, u192, u193, u194, u195, u196, u197, u198, u199, u200, u201, u202, u203, u204, u205, u206, u207, u208, u209, u210, u211, u212, u213, u214, u215, u216, u217, u218, u219, u220, u221, u222, u223, u224, u225, u226, u227, u228, u229, u230, u231, u232, u233, u234, u235], []⟩ wr := by
 have HE := hid hE
 have HS0 := hid hS
 clear hE hS
 conv => arg 2; whnf
 go_wp2_with fail
 rename_i Kx a2
 have AH := hid a2
 clear a2
 go_loopw [14] (fun iv wr => ∃ k : Nat, iv = .int .i64 ((k : Nat) : Int) ∧ k ≤ q.cs.length ∧ Hid (Spl T17 b X wr)) (fun iv _ => q.cs.length - (intOf iv).toNat)
 case atStart => exact ⟨0, rfl, Nat.zero_le _, HS0⟩
 case round =>
  clear HS0
  obtain ⟨k, rfl, hk, HS⟩ := hrel
  have pC := (HS.out.ob HE.out.obC HE.out.bC (by decide)).cell (k := 8) rfl
  by_cases hlt : k < q.cs.length
  · skip
    have hN := HE.out.few.2.2.2.2.1
    have b1 : (0 : Int) ≤ (k : Int) := by omega
    have b2 : (k : Int) < (q.cs.length : Nat) := by omega
    have b3 : (k : Int) + 1 ≤ 9223372036854775807 := by omega
    obtain ⟨ad, ea⟩ := own_some17 HE.out.own.cs (by omega)
    have O := HE.out.own.cs
    rw [ea] at O pC
    obtain ⟨z, hz⟩ : ∃ z, q.cs[k]? = some z := ⟨_, List.getElem?_eq_getElem (show k < q.cs.length by omega)⟩
    have hzl : z ∈ q.cs := List.mem_of_getElem? hz
    have c0 := HS.out.elem (en := enK) (K := 2) (j := 1) (v := .slice z.a z.x.ws.length z.c) (fun _ => rfl) O (by decide) hz (by decide) rfl
    obtain ⟨ys, hym, hyn, oy, oyE⟩ := HE.out.own.csE z hzl
    have Hz := hid hz
    replace O := hid O
    have Hea := hid ea
    have OY := hid oy
    have OYE := hid oyE
    have HYN := hid hyn
    have hB := (own_rdK OY.out).2
    have HB := hid (show (z.x.ws.length : Int) + 1 ≤ 9223372036854775808 from by have h8 := hB.2; unfold maxLen at h8; omega)
    clear ea hz hzl hN hym hyn oy oyE hB
    go_wp2_with fail
    go_loopw [15] (fun iv wr => ∃ j : Nat, iv = .int .i64 ((j : Nat) : Int) ∧ j ≤ z.x.ws.length ∧ Hid (Spl T17 b X wr)) (fun iv _ => z.x.ws.length - (intOf iv).toNat)
    case atStart => exact ⟨0, rfl, Nat.zero_le _, HS⟩
    case round =>
     clear pC c0 HS
     obtain ⟨j, rfl, hj, HS⟩ := hrel
     have pC := (HS.out.ob HE.out.obC HE.out.bC (by decide)).cell (k := 8) rfl
     rw [Hea.out] at pC
     have c0 := HS.out.elem (en := enK) (K := 2) (j := 1) (v := .slice z.a z.x.ws.length z.c) (fun _ => rfl) O.out (by decide) Hz.out (by decide) rfl
     by_cases hlj : j < z.x.ws.length
     · skip
       have j1 : (0 : Int) ≤ (j : Int) := by omega
       have j2 : (j : Int) < (z.x.ws.length : Nat) := by omega
       have j3 : (j : Int) + 1 ≤ 9223372036854775807 := by have := HB.out; omega
       obtain ⟨ad2, ea2⟩ := own_some17 OY.out (by omega)
       have O2 := OY.out
       rw [ea2] at O2 c0
       obtain ⟨y1, hy1⟩ : ∃ y1, ys[j]? = some y1 := ⟨_, List.getElem?_eq_getElem (show j < ys.length by have := HYN.out; omega)⟩
       have hyl := List.mem_of_getElem? hy1
       have c1 := HS.out.elem1 (en := enW) (v := .slice y1.a y1.l.length y1.c) (fun _ => rfl) O2 (by decide) hy1 rfl
       obtain ⟨xs, hxm, hxn, ox, oxE⟩ := OYE.out y1 hyl
       have Hy1 := hid hy1
       replace O2 := hid O2
       have Hea2 := hid ea2
       have OX := hid ox
       have OXE := hid oxE
       have HXN := hid hxn
       have hB := (own_rdK OX.out).2
       have HB2 := hid (show (y1.l.length : Int) + 1 ≤ 9223372036854775808 from by have h8 := hB.2; unfold maxLen at h8; omega)
       clear ea2 hy1 hyl hxm hxn ox oxE hB
       go_wp2_with fail
       go_loopw [16] (fun iv wr => ∃ m : Nat, iv = .int .i64 ((m : Nat) : Int) ∧ m ≤ y1.l.length ∧ Hid (Spl T17 b X wr)) (fun iv _ => y1.l.length - (intOf iv).toNat)
       case atStart => exact ⟨0, rfl, Nat.zero_le _, HS⟩
       case round =>
        clear pC c0 c1 HS
        obtain ⟨m, rfl, hm, HS⟩ := hrel
        have pC := (HS.out.ob HE.out.obC HE.out.bC (by decide)).cell (k := 8) rfl
        rw [Hea.out] at pC
        have c0 := HS.out.elem (en := enK) (K := 2) (j := 1) (v := .slice z.a z.x.ws.length z.c) (fun _ => rfl) O.out (by decide) Hz.out (by decide) rfl
        rw [Hea2.out] at c0
        have c1 := HS.out.elem1 (en := enW) (v := .slice y1.a y1.l.length y1.c) (fun _ => rfl) O2.out (by decide) Hy1.out rfl
        by_cases hlm : m < y1.l.length
        · skip
          have m1 : (0 : Int) ≤ (m : Int) := by omega
          have m2 : (m : Int) < (y1.l.length : Nat) := by omega
          have m3 : (m : Int) + 1 ≤ 9223372036854775807 := by have := HB2.out; omega
          obtain ⟨ad3, ea3⟩ := own_some17 OX.out (by omega)
          have O3 := OX.out
          rw [ea3] at O3 c1
          obtain ⟨e1, he1⟩ : ∃ e1, xs[m]? = some e1 := ⟨_, List.getElem?_eq_getElem (show m < xs.length by have := HXN.out; omega)⟩
          have hel := List.mem_of_getElem? he1
          have c2 := HS.out.elem1 (en := enI) (v := .slice e1.a e1.l.length e1.c) (fun _ => rfl) O3 (by decide) he1 rfl
          have HT := hid (p_turn b X e1.l e1.a e1.c (Nat.le_trans (own_rdK (OXE.out e1 hel)).2.1 (own_rdK (OXE.out e1 hel)).2.2) (OXE.out e1 hel) wr HS.out)
          clear O3 ea3 he1 hel
          go_wp2_with fail
          refine HT.out.mono ?_
          rintro e Y ⟨rfl, hs, hk2⟩
          have HS2 := hid hs
          clear hs hk2 HS HT pC c0 c1 c2
          go_wp2_with fail
          exact ⟨⟨m + 1, by go_num, by omega, HS2⟩, by simp [intOf]; omega⟩
        · obtain rfl : m = y1.l.length := by omega
          have m2 : ¬ ((y1.l.length : Nat) : Int) < (y1.l.length : Nat) := by omega
          go_wp2_with fail
          exact ⟨⟨j + 1, by go_num, by omega, HS⟩, by simp [intOf]; omega⟩
     · obtain rfl : j = z.x.ws.length := by omega
       have j2 : ¬ ((z.x.ws.length : Nat) : Int) < (z.x.ws.length : Nat) := by omega
       go_wp2_with fail
       exact ⟨⟨k + 1, by go_num, by omega, HS⟩, by simp [intOf]; omega⟩
  · obtain rfl : k = q.cs.length := by omega
    have b2 : ¬ ((q.cs.length : Nat) : Int) < (q.cs.length : Nat) := by omega
    go_wp2_with fail
    refine AH.out _ _ ?_
    exact law17_st x y q q0 w X _ b G F D C HE.out HS.out
end Go.Proofs.YtgmgccepmalahaaGreat
namespace Go.Proofs.YtgmgccepmalahaaGreat
open Go.RowKit
open Whn (Gr Wh)
set_option linter.unusedVariables false
set_option maxRecDepth 40000 in
set_option maxHeartbeats 32000000 in
theorem law17_cl (x y q q0 : PbA) (w X wr : World) (b G F D C : Nat) (hE : LawC x q q0 w X b G D C) (hS : Spl T17 b X wr) {u7 u8 u9 u10 u11 u12 u13 u14 u15 u16 u17 u18 u19 u20 u21 u22 u23 u24 u25 u26 u27 u28 u29 u30 u31 u32 u33 u34 u35 u36 u37 u38 u39 u40 u41 u42 u43 u44 u45 u46 u47 u48 u49 u50 u51 u52 u53 u54 u55 u56 u57 u58 u59 u60 u61 u62 u63 u64 u65 u66 u67 u68 u69 u70 u71 u72 u73 u74 u75 u76 u77 u78 u79 u80 u81 u82 u83 u84 u85 u86 u87 u88 u89 u90 u91 u92 u93 u94 u95 u96 u97 u98 u99 u100 u101 u102 u103 u104 u105 u106 u107 u108 u109 u110 u111 u112 u113 u114 u115 u116 u117 u118 u119 u120 u121 u122 u123 u124 u125 u126 u127 u128 u129 u130 u131 u132 u133 u134 u135 u136 u137 u138 u139 u140 u141 u142 u143 u144 u145 u146 u147 u148 u149 u150 u151 u152 u153 u154 u155 u156 u157 u158 u159 u160 u161 u162 u163 u164 u165 u166 u167 u168 u169 u170 u171 u172 u173 u174 u175 u176 u177 u178 u179 u180 u181 u182 u183 u184 u185 u186 u187 u188 u189 u190 u191 u192 u193 u194 u195 u196 u197 u198 u199 u200 u201 u202 u203 u204 u205 u206 u207 u208 u209 u210 u211 u212 u213 u214 u215 u216 u217 u218 u219 u220 u221 u222 u223 u224 u225 u226 u227 u228 u229 u230 u231 u232 u233 u234 u235 : Value} :
    Code.wp Tryz.prog (rest17 8 (body17 Tryz.f5)) (bodyPost Tryz.prog Tryz.f5 (Did (.bool true) w)) ⟨#[pbv x, pbv y, .pointer (some ⟨G, 0, none⟩), .pointer (some ⟨F, 0, none⟩), .bool false, .pointer (some ⟨D, 0, none⟩), .pointer (some ⟨C, 0, none⟩), u7, u8, u9, u10, u11, u12, u13, u14, u15, u16, u17, u18, u19, u20, u21, u22, u23, u24, u25, u26, u27, u28, u29, u30, u31, u32, u33, u34, u35, u36, u37, u38, u39, u40, u41, u42, u43, u44, u45, u46, u47, u48, u49, u50, u51, u52, u53, u54, u55, u56, u57, u58, u59, u60, u61, u62, u63, u64, u65, u66, u67, u68, u69, u70, u71, u72, u73, u74, u75, u76, u77, u78, u79, u80, u81, u82, u83, u84, u85, u86, u87, u88, u89, u90, u91, u92, u93, u94, u95, u96, u97, u98, u99, u100, u101, u102, u103, u104, u105, u106, u107, u108, u109, u110, u111, u112, u113, u114, u115, u116, u117, u118, u119, u120, u121, u122, u123, u124, u125, u126, u127, u128, u129, u130, u131, u132, u133, u134, u135, u136, u137, u138, u139, u140, u141, u142, u143, u144, u145, u146, u147, u148, u149, u150, u151, u152, u153, u154, u155, u156, u157, u158, u159, u160, u161, u162, u163, u164, u165, u166, u167, u168, u169, u170, u171, u172, u173, u174, u175, u176, u177, u178, u179, u180, u181, u182, u183, u184, u185, u186, u187, u188, u189, u190, u191, u192, u193, u194, u195, u196, u197, u198, u199, u200, u201, u202, u203, u204, u205, u206, u207, u208, u209, u210, u211, u212, u213, u214, u215, u216, u217, u218, u219, u220, u221, u222, u223, u224, u225, u226, u227, u228, u229, u230, u231, u232, u233, u234, u235], []⟩ wr := by
 have HE := hid hE
 have HS0 := hid hS
 clear hE hS
 conv => arg 2; whnf
 go_wp2_with fail
 rename_i Kx a2
 have AH := hid a2
 clear a2
 go_loopw [13] (fun iv wr => ∃ k : Nat, iv = .int .i64 ((k : Nat) : Int) ∧ k ≤ q.cl.length ∧ Hid (Spl T17 b X wr)) (fun iv _ => q.cl.length - (intOf iv).toNat)
 case atStart => exact ⟨0, rfl, Nat.zero_le _, HS0⟩
 case round =>
  clear HS0
  obtain ⟨k, rfl, hk, HS⟩ := hrel
  have pC := (HS.out.ob HE.out.obC HE.out.bC (by decide)).cell (k := 7) rfl
  by_cases hlt : k < q.cl.length
  · skip
    have hN := HE.out.few.2.2.2.1
    have b1 : (0 : Int) ≤ (k : Int) := by omega
    have b2 : (k : Int) < (q.cl.length : Nat) := by omega
    have b3 : (k : Int) + 1 ≤ 9223372036854775807 := by omega
    obtain ⟨ad, ea⟩ := own_some17 HE.out.own.cl (by omega)
    have O := HE.out.own.cl
    rw [ea] at O pC
    obtain ⟨z, hz⟩ : ∃ z, q.cl[k]? = some z := ⟨_, List.getElem?_eq_getElem (show k < q.cl.length by omega)⟩
    have hzl : z ∈ q.cl := List.mem_of_getElem? hz
    have c0 := HS.out.elem0 (en := enC) (K := 7) (v := txt z.x.n) (fun _ => rfl) O (by decide) hz (by decide) rfl
    have c1 := HS.out.elem (en := enC) (K := 7) (j := 1) (v := .int .i64 z.x.s) (fun _ => rfl) O (by decide) hz (by decide) rfl
    have c2 := HS.out.elem (en := enC) (K := 7) (j := 2) (v := .int .u16 (z.x.g : Int)) (fun _ => rfl) O (by decide) hz (by decide) rfl
    have c3 := HS.out.elem (en := enC) (K := 7) (j := 3) (v := .slice z.r.a z.x.p.length z.r.ac) (fun _ => rfl) O (by decide) hz (by decide) rfl
    have c4 := HS.out.elem (en := enC) (K := 7) (j := 4) (v := .slice z.r.b z.x.t.length z.r.bc) (fun _ => rfl) O (by decide) hz (by decide) rfl
    have c5 := HS.out.elem (en := enC) (K := 7) (j := 5) (v := .slice z.r.c z.x.l.length z.r.cc) (fun _ => rfl) O (by decide) hz (by decide) rfl
    have c6 := HS.out.elem (en := enC) (K := 7) (j := 6) (v := .int .i64 z.x.o) (fun _ => rfl) O (by decide) hz (by decide) rfl
    have HT := hid (p_spoil b X z ⟨(Nat.le_trans (own_rdK ((HE.out.own.clE z hzl).1)).2.1 (own_rdK ((HE.out.own.clE z hzl).1)).2.2), (Nat.le_trans (own_rdK ((HE.out.own.clE z hzl).2.1)).2.1 (own_rdK ((HE.out.own.clE z hzl).2.1)).2.2), (Nat.le_trans (own_rdK ((HE.out.own.clE z hzl).2.2)).2.1 (own_rdK ((HE.out.own.clE z hzl).2.2)).2.2)⟩ (HE.out.own.clE z hzl) wr HS.out)
    clear O ea hz hzl hN
    go_wp2_with fail
    refine HT.out.mono ?_
    rintro e Y ⟨rfl, hs, hk2⟩
    have HS2 := hid hs
    clear hs hk2 HS HT pC c0 c1 c2 c3 c4 c5 c6
    go_wp2_with fail
    exact ⟨⟨k + 1, by go_num, by omega, HS2⟩, by simp [intOf]; omega⟩
  · obtain rfl : k = q.cl.length := by omega
    have b2 : ¬ ((q.cl.length : Nat) : Int) < (q.cl.length : Nat) := by omega
    go_wp2_with fail
    refine AH.out _ _ ?_
    exact law17_cs x y q q0 w X _ b G F D C HE.out HS.out
set_option maxRecDepth 40000 in
set_option maxHeartbeats 32000000 in
theorem law17_ps (x y q q0 : PbA) (w X wr : World) (b G F D C : Nat) (hE : LawC x q q0 w X b G D C) (hS : Spl T17 b X wr) {u7 u8 u9 u10 u11 u12 u13 u14 u15 u16 u17 u18 u19 u20 u21 u22 u23 u24 u25 u26 u27 u28 u29 u30 u31 u32 u33 u34 u35 u36 u37 u38 u39 u40 u41 u42 u43 u44 u45 u46 u47 u48 u49 u50 u51 u52 u53 u54 u55 u56 u57 u58 u59 u60 u61 u62 u63 u64 u65 u66 u67 u68 u69 u70 u71 u72 u73 u74 u75 u76 u77 u78 u79 u80 u81 u82 u83 u84 u85 u86 u87 u88 u89 u90 u91 u92 u93 u94 u95 u96 u97 u98 u99 u100 u101 u102 u103 u104 u105 u106 u107 u108 u109 u110 u111 u112 u113 u114 u115 u116 u117 u118 u119 u120 u121 u122 u123 u124 u125 u126 u127 u128 u129 u130 u131 u132 u133 u134 u135 u136 u137 u138 u139 u140 u141 u142 u143 u144 u145 u146 u147 u148 u149 u150 u151 u152 u153 u154 u155 u156 u157 u158 u159 u160 u161 u162 u163 u164 u165 u166 u167 u168 u169 u170 u171 u172 u173 u174 u175 u176 u177 u178 u179 u180 u181 u182 u183 u184 u185 u186 u187 u188 u189 u190 u191 u192 u193 u194 u195 u196 u197 u198 u199 u200 u201 u202 u203 u204 u205 u206 u207 u208 u209 u210 u211 u212 u213 u214 u215 u216 u217 u218 u219 u220 u221 u222 u223 u224 u225 u226 u227 u228 u229 u230 u231 u232 u233 u234 u235 : Value} :
    Code.wp Tryz.prog (rest17 7 (body17 Tryz.f5)) (bodyPost Tryz.prog Tryz.f5 (Did (.bool true) w)) ⟨#[pbv x, pbv y, .pointer (some ⟨G, 0, none⟩), .pointer (some ⟨F, 0, none⟩), .bool false, .pointer (some ⟨D, 0, none⟩), .pointer (some ⟨C, 0, none⟩), u7, u8, u9, u10, u11, u12, u13, u14, u15, u16, u17, u18, u19, u20, u21, u22, u23, u24, u25, u26, u27, u28, u29, u30, u31, u32, u33, u34, u35, u36, u37, u38, u39, u40, u41, u42, u43, u44, u45, u46, u47, u48, u49, u50, u51, u52, u53, u54, u55, u56, u57, u58, u59, u60, u61, u62, u63, u64, u65, u66, u67, u68, u69, u70, u71, u72, u73, u74, u75, u76, u77, u78, u79, u80, u81, u82, u83, u84, u85, u86, u87, u88, u89, u90, u91, u92, u93, u94, u95, u96, u97, u98, u99, u100, u101, u102, u103, u104, u105, u106, u107, u108, u109, u110, u111, u112, u113, u114, u115, u116, u117, u118, u119, u120, u121, u122, u123, u124, u125, u126, u127, u128, u129, u130, u131, u132, u133, u134, u135, u136, u137, u138, u139, u140, u141, u142, u143, u144, u145, u146, u147, u148, u149, u150, u151, u152, u153, u154, u155, u156, u157, u158, u159, u160, u161, u162, u163, u164, u165, u166, u167, u168, u169, u170, u171, u172, u173, u174, u175, u176, u177, u178, u179, u180, u181, u182, u183, u184, u185, u186, u187, u188, u189, u190, u191, u192, u193, u194, u195, u196, u197, u198, u199, u200, u201, u202, u203, u204, u205, u206, u207, u208, u209, u210, u211, u212, u213, u214, u215, u216, u217, u218, u219, u220, u221, u222, u223, u224, u225, u226, u227, u228, u229, u230, u231, u232, u233, u234, u235], []⟩ wr := by
 have HE := hid hE
 have HS0 := hid hS
 clear hE hS
 conv => arg 2; whnf
 go_wp2_with fail
 rename_i Kx a2
 have AH := hid a2
 clear a2
 go_loopw [11] (fun iv wr => ∃ k : Nat, iv = .int .i64 ((k : Nat) : Int) ∧ k ≤ q.ps.length ∧ Hid (Spl T17 b X wr)) (fun iv _ => q.ps.length - (intOf iv).toNat)
 case atStart => exact ⟨0, rfl, Nat.zero_le _, HS0⟩
 case round =>
  clear HS0
  obtain ⟨k, rfl, hk, HS⟩ := hrel
  have pC := (HS.out.ob HE.out.obC HE.out.bC (by decide)).cell (k := 6) rfl
  by_cases hlt : k < q.ps.length
  · skip
    have hN := HE.out.few.2.2.1
    have b1 : (0 : Int) ≤ (k : Int) := by omega
    have b2 : (k : Int) < (q.ps.length : Nat) := by omega
    have b3 : (k : Int) + 1 ≤ 9223372036854775807 := by omega
    obtain ⟨ad, ea⟩ := own_some17 HE.out.own.ps (by omega)
    have O := HE.out.own.ps
    rw [ea] at O pC
    obtain ⟨z, hz⟩ : ∃ z, q.ps[k]? = some z := ⟨_, List.getElem?_eq_getElem (show k < q.ps.length by omega)⟩
    have hzl : z ∈ q.ps := List.mem_of_getElem? hz
    have c0 := HS.out.elem (en := enQ) (K := 2) (j := 1) (v := .slice z.a z.r.l.length z.c) (fun _ => rfl) O (by decide) hz (by decide) rfl
    have Hz := hid hz
    replace O := hid O
    have HO2 := hid (show X.ownsRow b 55 4 (.slice z.a z.r.l.length z.c) z.r.l.length (ecells wc z.r.l) from HE.out.own.psE z hzl)
    have Hea := hid ea
    clear ea hz hzl hN
    go_wp2_with fail
    go_loopw [12] (fun iv wr => ∃ j : Nat, iv = .int .i64 ((j : Nat) : Int) ∧ j ≤ z.r.l.length ∧ Hid (Spl T17 b X wr)) (fun iv _ => z.r.l.length - (intOf iv).toNat)
    case atStart => exact ⟨0, rfl, Nat.zero_le _, HS⟩
    case round =>
     clear pC HS c0
     obtain ⟨j, rfl, hj, HS⟩ := hrel
     have pC := (HS.out.ob HE.out.obC HE.out.bC (by decide)).cell (k := 6) rfl
     rw [Hea.out] at pC
     have c0 := HS.out.elem (en := enQ) (K := 2) (j := 1) (v := .slice z.a z.r.l.length z.c) (fun _ => rfl) O.out (by decide) Hz.out (by decide) rfl
     by_cases hlj : j < z.r.l.length
     · skip
       have j1 : (0 : Int) ≤ (j : Int) := by omega
       have j2 : (j : Int) < (z.r.l.length : Nat) := by omega
       obtain ⟨ad2, ea2⟩ := own_some17 HO2.out (by omega)
       have O2 := HO2.out
       rw [ea2] at O2 c0
       have hc : (ecells wc z.r.l)[j * 4 + 3]? = some (.int .i64 (z.r.l[j]'hlj).l) := (ecells_get (K := 4) (fun _ => rfl) z.r.l j _ (List.getElem?_eq_getElem hlj) 3 (by decide)).trans rfl
       obtain ⟨u, hu⟩ := HS.out.has O2 hc
       have hf := HS.out.free O2 (j * 4 + 3)
       obtain ⟨U, hU⟩ : ∃ U, wr.setCell (ad2.add (j * 4 + 3)) (.int .i64 (-1)) = U := ⟨_, rfl⟩
       have HU := hid (show Spl T17 b X U from hU ▸ HS.out.put O2 (by decide) hc (fun _ _ _ e => by cases e) _)
       rw [add_fld17 _ _ _ (by decide)] at hu hf hU
       have j3 : (j : Int) + 1 ≤ 9223372036854775807 := by have := own_rdK O2; have h8 := this.2; unfold maxLen at h8; omega
       clear hc HS O2 ea2
       go_wp2_with fail
       exact ⟨⟨j + 1, by go_num, by omega, HU⟩, by simp [intOf]; omega⟩
     · obtain rfl : j = z.r.l.length := by omega
       have j2 : ¬ (((z.r.l.length : Nat)) : Int) < (z.r.l.length : Nat) := by omega
       go_wp2_with fail
       exact ⟨⟨k + 1, by go_num, by omega, HS⟩, by simp [intOf]; omega⟩
  · obtain rfl : k = q.ps.length := by omega
    have b2 : ¬ ((q.ps.length : Nat) : Int) < (q.ps.length : Nat) := by omega
    go_wp2_with fail
    refine AH.out _ _ ?_
    exact law17_cl x y q q0 w X _ b G F D C HE.out HS.out
set_option maxRecDepth 40000 in
set_option maxHeartbeats 32000000 in
theorem law17_wk (x y q q0 : PbA) (w X wr : World) (b G F D C : Nat) (hE : LawC x q q0 w X b G D C) (hS : Spl T17 b X wr) {u7 u8 u9 u10 u11 u12 u13 u14 u15 u16 u17 u18 u19 u20 u21 u22 u23 u24 u25 u26 u27 u28 u29 u30 u31 u32 u33 u34 u35 u36 u37 u38 u39 u40 u41 u42 u43 u44 u45 u46 u47 u48 u49 u50 u51 u52 u53 u54 u55 u56 u57 u58 u59 u60 u61 u62 u63 u64 u65 u66 u67 u68 u69 u70 u71 u72 u73 u74 u75 u76 u77 u78 u79 u80 u81 u82 u83 u84 u85 u86 u87 u88 u89 u90 u91 u92 u93 u94 u95 u96 u97 u98 u99 u100 u101 u102 u103 u104 u105 u106 u107 u108 u109 u110 u111 u112 u113 u114 u115 u116 u117 u118 u119 u120 u121 u122 u123 u124 u125 u126 u127 u128 u129 u130 u131 u132 u133 u134 u135 u136 u137 u138 u139 u140 u141 u142 u143 u144 u145 u146 u147 u148 u149 u150 u151 u152 u153 u154 u155 u156 u157 u158 u159 u160 u161 u162 u163 u164 u165 u166 u167 u168 u169 u170 u171 u172 u173 u174 u175 u176 u177 u178 u179 u180 u181 u182 u183 u184 u185 u186 u187 u188 u189 u190 u191 u192 u193 u194 u195 u196 u197 u198 u199 u200 u201 u202 u203 u204 u205 u206 u207 u208 u209 u210 u211 u212 u213 u214 u215 u216 u217 u218 u219 u220 u221 u222 u223 u224 u225 u226 u227 u228 u229 u230 u231 u232 u233 u234 u235 : Value} :
    Code.wp Tryz.prog (rest17 6 (body17 Tryz.f5)) (bodyPost Tryz.prog Tryz.f5 (Did (.bool true) w)) ⟨#[pbv x, pbv y, .pointer (some ⟨G, 0, none⟩), .pointer (some ⟨F, 0, none⟩), .bool false, .pointer (some ⟨D, 0, none⟩), .pointer (some ⟨C, 0, none⟩), u7, u8, u9, u10, u11, u12, u13, u14, u15, u16, u17, u18, u19, u20, u21, u22, u23, u24, u25, u26, u27, u28, u29, u30, u31, u32, u33, u34, u35, u36, u37, u38, u39, u40, u41, u42, u43, u44, u45, u46, u47, u48, u49, u50, u51, u52, u53, u54, u55, u56, u57, u58, u59, u60, u61, u62, u63, u64, u65, u66, u67, u68, u69, u70, u71, u72, u73, u74, u75, u76, u77, u78, u79, u80, u81, u82, u83, u84, u85, u86, u87, u88, u89, u90, u91, u92, u93, u94, u95, u96, u97, u98, u99, u100, u101, u102, u103, u104, u105, u106, u107, u108, u109, u110, u111, u112, u113, u114, u115, u116, u117, u118, u119, u120, u121, u122, u123, u124, u125, u126, u127, u128, u129, u130, u131, u132, u133, u134, u135, u136, u137, u138, u139, u140, u141, u142, u143, u144, u145, u146, u147, u148, u149, u150, u151, u152, u153, u154, u155, u156, u157, u158, u159, u160, u161, u162, u163, u164, u165, u166, u167, u168, u169, u170, u171, u172, u173, u174, u175, u176, u177, u178, u179, u180, u181, u182, u183, u184, u185, u186, u187, u188, u189, u190, u191, u192, u193, u194, u195, u196, u197, u198, u199, u200, u201, u202, u203, u204, u205, u206, u207, u208, u209, u210, u211, u212, u213, u214, u215, u216, u217, u218, u219, u220, u221, u222, u223, u224, u225, u226, u227, u228, u229, u230, u231, u232, u233, u234, u235], []⟩ wr := by
 have HE := hid hE
 have HS0 := hid hS
 obtain ⟨zs, hzm, hzn, ow, owE⟩ := hE.own.wk
 have OW := hid ow
 have OWE := hid owE
 have HZN := hid hzn
 clear ow owE hzm hzn
 clear hE hS
 conv => arg 2; whnf
 go_wp2_with fail
 rename_i Kx a2
 have AH := hid a2
 clear a2
 go_loopw [9] (fun iv wr => ∃ k : Nat, iv = .int .i64 ((k : Nat) : Int) ∧ k ≤ q.wk.length ∧ Hid (Spl T17 b X wr)) (fun iv _ => q.wk.length - (intOf iv).toNat)
 case atStart => exact ⟨0, rfl, Nat.zero_le _, HS0⟩
 case round =>
  clear HS0
  obtain ⟨k, rfl, hk, HS⟩ := hrel
  have pC := (HS.out.ob HE.out.obC HE.out.bC (by decide)).cell (k := 5) rfl
  by_cases hlt : k < q.wk.length
  · skip
    have hN := HE.out.few.2.1
    have b1 : (0 : Int) ≤ (k : Int) := by omega
    have b2 : (k : Int) < (q.wk.length : Nat) := by omega
    have b3 : (k : Int) + 1 ≤ 9223372036854775807 := by omega
    obtain ⟨ad, ea⟩ := own_some17 OW.out (by omega)
    have O := OW.out
    rw [ea] at O pC
    obtain ⟨z, hz⟩ : ∃ z, zs[k]? = some z := ⟨_, List.getElem?_eq_getElem (show k < zs.length by have := HZN.out; omega)⟩
    have hzl : z ∈ zs := List.mem_of_getElem? hz
    have c0 := HS.out.elem1 (en := enI) (v := .slice z.a z.l.length z.c) (fun _ => rfl) O (by decide) hz rfl
    have Hz := hid hz
    replace O := hid O
    have HO2 := hid (show X.ownsRow b 3 1 (.slice z.a z.l.length z.c) z.l.length (z.l.map (Value.int .i64)) from OWE.out z hzl)
    have Hea := hid ea
    clear ea hz hzl hN
    go_wp2_with fail
    go_loopw [10] (fun iv wr => ∃ j : Nat, iv = .int .i64 ((j : Nat) : Int) ∧ j ≤ z.l.length ∧ Hid (Spl T17 b X wr)) (fun iv _ => z.l.length - (intOf iv).toNat)
    case atStart => exact ⟨0, rfl, Nat.zero_le _, HS⟩
    case round =>
     clear pC HS c0
     obtain ⟨j, rfl, hj, HS⟩ := hrel
     have pC := (HS.out.ob HE.out.obC HE.out.bC (by decide)).cell (k := 5) rfl
     rw [Hea.out] at pC
     have c0 := HS.out.elem1 (en := enI) (v := .slice z.a z.l.length z.c) (fun _ => rfl) O.out (by decide) Hz.out rfl
     by_cases hlj : j < z.l.length
     · skip
       have j1 : (0 : Int) ≤ (j : Int) := by omega
       have j2 : (j : Int) < (z.l.length : Nat) := by omega
       obtain ⟨ad2, ea2⟩ := own_some17 HO2.out (by omega)
       have O2 := HO2.out
       rw [ea2] at O2 c0
       have hc : (z.l.map (Value.int .i64))[j]? = some (.int .i64 (z.l[j]'hlj)) := by rw [List.getElem?_map, List.getElem?_eq_getElem hlj]; rfl
       obtain ⟨u, hu⟩ := HS.out.has O2 hc
       have hf := HS.out.free O2 (j)
       obtain ⟨U, hU⟩ : ∃ U, wr.setCell (ad2.add (j)) (.int .i64 (-1)) = U := ⟨_, rfl⟩
       have HU := hid (show Spl T17 b X U from hU ▸ HS.out.put O2 (by decide) hc (fun _ _ _ e => by cases e) _)
       have j3 : (j : Int) + 1 ≤ 9223372036854775807 := by have := own_rdK O2; have h8 := this.2; unfold maxLen at h8; omega
       clear hc HS O2 ea2
       go_wp2_with fail
       exact ⟨⟨j + 1, by go_num, by omega, HU⟩, by simp [intOf]; omega⟩
     · obtain rfl : j = z.l.length := by omega
       have j2 : ¬ (((z.l.length : Nat)) : Int) < (z.l.length : Nat) := by omega
       go_wp2_with fail
       exact ⟨⟨k + 1, by go_num, by omega, HS⟩, by simp [intOf]; omega⟩
  · obtain rfl : k = q.wk.length := by omega
    have b2 : ¬ ((q.wk.length : Nat) : Int) < (q.wk.length : Nat) := by omega
    go_wp2_with fail
    refine AH.out _ _ ?_
    exact law17_ps x y q q0 w X _ b G F D C HE.out HS.out
end Go.Proofs.YtgmgccepmalahaaGreat
namespace Go.Proofs.YtgmgccepmalahaaGreat
open Go.RowKit
open Whn (Gr Wh)
set_option linter.unusedVariables false
set_option maxRecDepth 40000 in
set_option maxHeartbeats 32000000 in
theorem law17_rm (x y q q0 : PbA) (w X wr : World) (b G F D C : Nat) (hE : LawC x q q0 w X b G D C) (hS : Spl T17 b X wr) (hN : ∀ ad, q.r0 = some ad → Nm17 q ad 0 wr) {u7 u8 u9 u10 u11 u12 u13 u14 u15 u16 u17 u18 u19 u20 u21 u22 u23 u24 u25 u26 u27 u28 u29 u30 u31 u32 u33 u34 u35 u36 u37 u38 u39 u40 u41 u42 u43 u44 u45 u46 u47 u48 u49 u50 u51 u52 u53 u54 u55 u56 u57 u58 u59 u60 u61 u62 u63 u64 u65 u66 u67 u68 u69 u70 u71 u72 u73 u74 u75 u76 u77 u78 u79 u80 u81 u82 u83 u84 u85 u86 u87 u88 u89 u90 u91 u92 u93 u94 u95 u96 u97 u98 u99 u100 u101 u102 u103 u104 u105 u106 u107 u108 u109 u110 u111 u112 u113 u114 u115 u116 u117 u118 u119 u120 u121 u122 u123 u124 u125 u126 u127 u128 u129 u130 u131 u132 u133 u134 u135 u136 u137 u138 u139 u140 u141 u142 u143 u144 u145 u146 u147 u148 u149 u150 u151 u152 u153 u154 u155 u156 u157 u158 u159 u160 u161 u162 u163 u164 u165 u166 u167 u168 u169 u170 u171 u172 u173 u174 u175 u176 u177 u178 u179 u180 u181 u182 u183 u184 u185 u186 u187 u188 u189 u190 u191 u192 u193 u194 u195 u196 u197 u198 u199 u200 u201 u202 u203 u204 u205 u206 u207 u208 u209 u210 u211 u212 u213 u214 u215 u216 u217 u218 u219 u220 u221 u222 u223 u224 u225 u226 u227 u228 u229 u230 u231 u232 u233 u234 u235 : Value} :
    Code.wp Tryz.prog (rest17 5 (body17 Tryz.f5)) (bodyPost Tryz.prog Tryz.f5 (Did (.bool true) w)) ⟨#[pbv x, pbv y, .pointer (some ⟨G, 0, none⟩), .pointer (some ⟨F, 0, none⟩), .bool false, .pointer (some ⟨D, 0, none⟩), .pointer (some ⟨C, 0, none⟩), u7, u8, u9, u10, u11, u12, u13, u14, u15, u16, u17, u18, u19, u20, u21, u22, u23, u24, u25, u26, u27, u28, u29, u30, u31, u32, u33, u34, u35, u36, u37, u38, u39, u40, u41, u42, u43, u44, u45, u46, u47, u48, u49, u50, u51, u52, u53, u54, u55, u56, u57, u58, u59, u60, u61, u62, u63, u64, u65, u66, u67, u68, u69, u70, u71, u72, u73, u74, u75, u76, u77, u78, u79, u80, u81, u82, u83, u84, u85, u86, u87, u88, u89, u90, u91, u92, u93, u94, u95, u96, u97, u98, u99, u100, u101, u102, u103, u104, u105, u106, u107, u108, u109, u110, u111, u112, u113, u114, u115, u116, u117, u118, u119, u120, u121, u122, u123, u124, u125, u126, u127, u128, u129, u130, u131, u132, u133, u134, u135, u136, u137, u138, u139, u140, u141, u142, u143, u144, u145, u146, u147, u148, u149, u150, u151, u152, u153, u154, u155, u156, u157, u158, u159, u160, u161, u162, u163, u164, u165, u166, u167, u168, u169, u170, u171, u172, u173, u174, u175, u176, u177, u178, u179, u180, u181, u182, u183, u184, u185, u186, u187, u188, u189, u190, u191, u192, u193, u194, u195, u196, u197, u198, u199, u200, u201, u202, u203, u204, u205, u206, u207, u208, u209, u210, u211, u212, u213, u214, u215, u216, u217, u218, u219, u220, u221, u222, u223, u224, u225, u226, u227, u228, u229, u230, u231, u232, u233, u234, u235], []⟩ wr := by
 have HE := hid hE
 have HS0 := hid hS
 have HN0 := hid hN
 clear hE hS hN
 conv => arg 2; whnf
 go_wp2_with fail
 rename_i Kx a2
 have AH := hid a2
 clear a2
 go_loopw [7] (fun iv wr => ∃ k : Nat, iv = .int .i64 ((k : Nat) : Int) ∧ k ≤ q.rm.length ∧ Hid (Spl T17 b X wr) ∧ Hid (∀ ad, q.r0 = some ad → Nm17 q ad k wr)) (fun iv _ => q.rm.length - (intOf iv).toNat)
 case atStart => exact ⟨0, rfl, Nat.zero_le _, HS0, HN0⟩
 case round =>
  clear HS0 HN0
  obtain ⟨k, rfl, hk, HS, HN⟩ := hrel
  have pC := (HS.out.ob HE.out.obC HE.out.bC (by decide)).cell (k := 4) rfl
  by_cases hlt : k < q.rm.length
  · skip
    have hN := HE.out.few.1
    have b1 : (0 : Int) ≤ (k : Int) := by omega
    have b2 : (k : Int) < (q.rm.length : Nat) := by omega
    have b3 : (k : Int) + 1 ≤ 9223372036854775807 := by omega
    obtain ⟨ad, ea⟩ := own_some17 HE.out.own.rm (by omega)
    have O := HE.out.own.rm
    rw [ea] at O pC
    obtain ⟨z, hz⟩ : ∃ z, q.rm[k]? = some z := ⟨_, List.getElem?_eq_getElem (show k < q.rm.length by omega)⟩
    have hzl : z ∈ q.rm := List.mem_of_getElem? hz
    have HN2 := hid (HN.out ad ea)
    have hnm := HE.out.nm z hzl
    have hc0 : (ecells enR q.rm)[k * 4]? = some (txt z.r.n) := (ecells_get (K := 4) (fun _ => rfl) q.rm k z hz 0 (by decide)).trans rfl
    have HS1 := hid (HS.out.next (Below.refl wr.heap.size wr).drew)
    have HN1 := hid (show wr.drew.cell? (ad.add (k * 4)) = some (txt z.r.n) from HN2.out k z (Nat.le_refl _) hz)
    have HN3 := hid (show Nm17 q ad k wr.drew from HN2.out)
    have Hz := hid hz
    have HO := hid O
    have HO2 := hid (show X.ownsRow b 55 4 (.slice z.a z.r.l.length z.c) z.r.l.length (ecells wc z.r.l) from HE.out.own.rmE z hzl)
    have Hea := hid ea
    have Hc0 := hid hc0
    have Hnm := hid hnm
    clear ea hz hzl hN O hnm hc0 HN HN2
    go_upto_region 10 with fail
    clear pC HS
    refine wp_region_L (S := SL (fun X1 => Spl T17 b X X1) [(12, fun X1 => X1.cell? (ad.add (k * 4)) = some (txt z.r.n))]) (by kernel_rfl) (SL.one HS1.out HN1.out) (fun hHeld => ?_)
    clear hHeld
    generalize wr.drew = V0 at HS1 HN1 HN3 ⊢
    refine takeL 0 59 (.pointer (some ⟨C, 4, none⟩)) rfl rfl (by kernel_rfl) (by kernel_rfl) (by kernel_rfl) (by rfl) (fun _ _ _ h => h) (by kernel_rfl) (fun X1 hX => by clear hX; first | rfl | go_simp) (SL.one HS1.out HN1.out) ?_
    simp only [pt, List.set]
    refine takeL 1 60 (.slice (some ad) q.rm.length q.c0) rfl rfl (by kernel_rfl) (by kernel_rfl) (by kernel_rfl) (by rfl) (fun _ _ _ h => h) (by kernel_rfl) (fun X1 hX => by have pC := (hX.ob HE.out.obC HE.out.bC (by decide)).cell (k := 4) rfl; rw [Hea.out] at pC; clear hX; go_simp) (SL.one HS1.out HN1.out) ?_
    simp only [pt, List.set]
    refine takeL 2 61 (.int .i64 (k : Nat)) rfl rfl (by kernel_rfl) (by kernel_rfl) (by kernel_rfl) (by rfl) (fun _ _ _ h => h) (by kernel_rfl) (fun X1 hX => by clear hX; first | rfl | go_simp) (SL.one HS1.out HN1.out) ?_
    simp only [pt, List.set]
    refine takeL 3 62 (.pointer (some ⟨C, 4, none⟩)) rfl rfl (by kernel_rfl) (by kernel_rfl) (by kernel_rfl) (by rfl) (fun _ _ _ h => h) (by kernel_rfl) (fun X1 hX => by clear hX; first | rfl | go_simp) (SL.one HS1.out HN1.out) ?_
    simp only [pt, List.set]
    refine takeL 4 63 (.slice (some ad) q.rm.length q.c0) rfl rfl (by kernel_rfl) (by kernel_rfl) (by kernel_rfl) (by rfl) (fun _ _ _ h => h) (by kernel_rfl) (fun X1 hX => by have pC := (hX.ob HE.out.obC HE.out.bC (by decide)).cell (k := 4) rfl; rw [Hea.out] at pC; clear hX; go_simp) (SL.one HS1.out HN1.out) ?_
    simp only [pt, List.set]
    refine takeL 5 64 (.int .i64 (k : Nat)) rfl rfl (by kernel_rfl) (by kernel_rfl) (by kernel_rfl) (by rfl) (fun _ _ _ h => h) (by kernel_rfl) (fun X1 hX => by clear hX; first | rfl | go_simp) (SL.one HS1.out HN1.out) ?_
    simp only [pt, List.set]
    refine takeL 6 65 (.pointer (some (ad.add (k * 4)))) rfl rfl (by kernel_rfl) (by kernel_rfl) (by kernel_rfl) (by rfl) (fun _ _ _ h => h) (by kernel_rfl) (fun X1 hX => by clear hX; first | rfl | go_simp) (SL.one HS1.out HN1.out) ?_
    simp only [pt, List.set]
    refine takeL 7 66 (.pointer (some (ad.add (k * 4)))) rfl rfl (by kernel_rfl) (by kernel_rfl) (by kernel_rfl) (by rfl) (fun _ _ _ h => h) (by kernel_rfl) (fun X1 hX => by clear hX; first | rfl | go_simp) (SL.one HS1.out HN1.out) ?_
    simp only [pt, List.set]
    refine takeN 8 67 (txt z.r.n) 12 (fun X1 => X1.cell? (ad.add (k * 4)) = some (txt z.r.n)) rfl rfl (by kernel_rfl) (by kernel_rfl) (by kernel_rfl) (by rfl) (by simp) (by kernel_rfl) (by kernel_rfl) (fun _ _ _ h => h) (by kernel_rfl) (fun X1 hX hY => by clear hX; go_simp) (SL.one HS1.out HN1.out) ?_
    simp only [pt, List.set]
    refine takeL 9 68 (.string (bs z.r.n ++ ⟨#[120]⟩)) rfl rfl (by kernel_rfl) (by kernel_rfl) (by kernel_rfl) (by rfl) (fun _ _ _ h => h) (by kernel_rfl) (fun X1 hX => by have hnm := Hnm.out; clear hX; go_simp) (SL.one HS1.out HN1.out) ?_
    simp only [pt, List.set]
    refine takeL 10 69 (.pointer (some (ad.add (k * 4)))) rfl rfl (by kernel_rfl) (by kernel_rfl) (by kernel_rfl) (by rfl) (fun _ _ _ h => h) (by kernel_rfl) (fun X1 hX => by clear hX; first | rfl | go_simp) (SL.one HS1.out HN1.out) ?_
    simp only [pt, List.set]
    refine takeL 11 70 (.pointer (some (ad.add (k * 4)))) rfl rfl (by kernel_rfl) (by kernel_rfl) (by kernel_rfl) (by rfl) (fun _ _ _ h => h) (by kernel_rfl) (fun X1 hX => by clear hX; first | rfl | go_simp) (SL.one HS1.out HN1.out) ?_
    simp only [pt, List.set]
    have hu := HN1.out
    have hf := HS1.out.free HO.out (k * 4)
    obtain ⟨U, hU⟩ : ∃ U, V0.setCell (ad.add (k * 4)) (.string (bs z.r.n ++ ⟨#[120]⟩)) = U := ⟨_, rfl⟩
    have HSU := hid (show Spl T17 b X U from hU ▸ HS1.out.put HO.out (by decide) Hc0.out (fun _ _ _ e => by cases e) _)
    have HNU := hid (show Nm17 q ad (k + 1) U from fun j z2 hj hz2 => by rw [← hU, own_apart17 HO.out (by omega)]; exact HN3.out j z2 (by omega) hz2)
    refine wpAnyL_ready (rs := [12]) (by kernel_rfl) (by simp) ?_
    refine (AllReadyL.cons rfl (fun KK hK => ?_) AllReadyL.nil)
    simp only [List.getElem_toArray, List.getElem_cons_succ, List.getElem_cons_zero]
    go_simp
    refine hK.out _ _ (SL.past HSU.out (by kernel_rfl)) (fun hHeld => ?_)
    clear hK KK hHeld HS1 HN1 HN3 hu hf hU
    try simp only [pt, List.set]
    refine wpAnyL_done (by kernel_rfl) ?_ _
    have pC := (HSU.out.ob HE.out.obC HE.out.bC (by decide)).cell (k := 4) rfl
    rw [Hea.out] at pC
    have c0 := HSU.out.elemS (en := enR) (K := 4) (j := 3) (A := z.a) (m := z.r.l.length) (d := z.c) (fun _ => rfl) HO.out Hz.out (by decide) rfl
    go_wp2_with fail
    go_loopw [8] (fun iv wr => ∃ j : Nat, iv = .int .i64 ((j : Nat) : Int) ∧ j ≤ z.r.l.length ∧ Hid (Spl T17 b X wr) ∧ Hid (Nm17 q ad (k + 1) wr)) (fun iv _ => z.r.l.length - (intOf iv).toNat)
    case atStart => exact ⟨0, rfl, Nat.zero_le _, HSU, HNU⟩
    case round =>
     clear pC c0 HSU HNU
     obtain ⟨j, rfl, hj, HS, HN⟩ := hrel
     have pC := (HS.out.ob HE.out.obC HE.out.bC (by decide)).cell (k := 4) rfl
     rw [Hea.out] at pC
     have c0 := HS.out.elemS (en := enR) (K := 4) (j := 3) (A := z.a) (m := z.r.l.length) (d := z.c) (fun _ => rfl) HO.out Hz.out (by decide) rfl
     by_cases hlj : j < z.r.l.length
     · skip
       have j1 : (0 : Int) ≤ (j : Int) := by omega
       have j2 : (j : Int) < (z.r.l.length : Nat) := by omega
       obtain ⟨ad2, ea2⟩ := own_some17 HO2.out (by omega)
       have O2 := HO2.out
       rw [ea2] at O2 c0
       have hc : (ecells wc z.r.l)[j * 4 + 3]? = some (.int .i64 (z.r.l[j]'hlj).l) := (ecells_get (K := 4) (fun _ => rfl) z.r.l j _ (List.getElem?_eq_getElem hlj) 3 (by decide)).trans rfl
       obtain ⟨u, hu⟩ := HS.out.has O2 hc
       have hf := HS.out.free O2 (j * 4 + 3)
       obtain ⟨U2, hU⟩ : ∃ U, wr.setCell (ad2.add (j * 4 + 3)) (.int .i64 (-1)) = U := ⟨_, rfl⟩
       have HU := hid (show Spl T17 b X U2 from hU ▸ HS.out.put O2 (by decide) hc (fun _ _ _ e => by cases e) _)
       have HNU := hid (show Nm17 q ad (k + 1) U2 from fun i z2 hi hz2 => by rw [← hU, own_far17 HO.out O2 (by decide)]; exact HN.out i z2 hi hz2)
       rw [add_fld17 _ _ _ (by decide)] at hu hf hU
       have j3 : (j : Int) + 1 ≤ 9223372036854775807 := by have := own_rdK O2; have h8 := this.2; unfold maxLen at h8; omega
       clear hc HS HN O2 ea2
       go_wp2_with fail
       exact ⟨⟨j + 1, by go_num, by omega, HU, HNU⟩, by simp [intOf]; omega⟩
     · obtain rfl : j = z.r.l.length := by omega
       have j2 : ¬ ((z.r.l.length : Nat) : Int) < (z.r.l.length : Nat) := by omega
       go_wp2_with fail
       exact ⟨⟨k + 1, by go_num, by omega, HS, hid (fun ad9 h9 => by have h8 := Hea.out.symm.trans h9; injection h8 with h8; exact h8 ▸ HN.out)⟩, by simp [intOf]; omega⟩
  · obtain rfl : k = q.rm.length := by omega
    have b2 : ¬ ((q.rm.length : Nat) : Int) < (q.rm.length : Nat) := by omega
    go_wp2_with fail
    refine AH.out _ _ ?_
    exact law17_wk x y q q0 w X _ b G F D C HE.out HS.out
end Go.Proofs.YtgmgccepmalahaaGreat
