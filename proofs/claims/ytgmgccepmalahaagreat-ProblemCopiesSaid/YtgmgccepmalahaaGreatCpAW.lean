/- What the proof of ProblemCopies stands on, part 23. -/
import Derived.Test.YtgmgccepmalahaaGreatCpAN
import Derived.Test.YtgmgccepmalahaaGreatCpAV

namespace Go.Proofs.YtgmgccepmalahaaGreat
open Go.RowKit
open Whn (Gr Wh)
set_option linter.unusedVariables false
set_option maxRecDepth 40000 in
set_option maxHeartbeats 32000000 in
theorem r17_Same_0 (x y_ : PbA) (w : World) (h1 : PbIn w x) (h2 : PbIn w y_)  (nk : ¬ x.n = y_.n) : Calls Tryz.prog 20 #[pbv x, pbv y_] w (CtRet (x.p = y_.p) w) := by
 have hne : ¬ x.p = y_.p := fun e => nk ((pb_same17 x y_).1 e).1
 have q0 : ((bs x.n).toList == (bs y_.n).toList) = decide (x.n = y_.n) := by rw [list_of, list_of, bs_data, bs_data]; by_cases h : x.n = y_.n <;> simp [h]
 rw [decide_eq_false nk] at q0
 obtain ⟨G, W, hG, hW, K0, hb0⟩ := (Mem.nil w).one (pbc x) 34
 obtain ⟨Q, V, hQ, hV, K, hb2⟩ := K0.out.one (pbc y_) 34
 have Hcell := hid (fun X (h : Mem w X [(Q, pbc y_, 34), (G, pbc x, 34)]) => And.intro (h.pb (B := G) (x := x) (t := 34) (by simp)) (h.pb (B := Q) (x := y_) (t := 34) (by simp)))
 obtain ⟨⟨p0, p1, p2, p3, p4, p5, p6, p7, p8, p9, p10, p11, p12, p13, p14⟩, s0, s1, s2, s3, s4, s5, s6, s7, s8, s9, s10, s11, s12, s13, s14⟩ := Hcell.out _ K.out
 clear K0 hb0 hb2 h1 h2 nk 
 go_enter Tryz.func20, Tryz.ntmps20
 iterate 17 (first | go_values | go_skip | go_guarded | go_step | go_upon | go_back)
 simp only [List.append_eq, List.cons_append, List.nil_append]
 rename_i Kx a2
 have AH := hid a2
 clear a2
 go_wp2_with fail
 refine AH.out _ _ ?_
 clear AH
 go_wp2_with fail
 go_ret
 exact ⟨false, rfl, by first | exact ⟨fun h => (by cases h), fun h => absurd h hne⟩ | exact ⟨fun h => (by cases h), fun h => False.elim h⟩, K.out.2⟩
set_option maxRecDepth 40000 in
set_option maxHeartbeats 32000000 in
theorem r17_Same_1 (x y_ : PbA) (w : World) (h1 : PbIn w x) (h2 : PbIn w y_) (e0 : x.n = y_.n) (nk : ¬ x.g = y_.g) : Calls Tryz.prog 20 #[pbv x, pbv y_] w (CtRet (x.p = y_.p) w) := by
 have hne : ¬ x.p = y_.p := fun e => nk ((pb_same17 x y_).1 e).2.1
 have q0 : ((bs x.n).toList == (bs y_.n).toList) = decide (x.n = y_.n) := by rw [list_of, list_of, bs_data, bs_data]; by_cases h : x.n = y_.n <;> simp [h]
 rw [decide_eq_true e0] at q0
 have Hgr := gr_neq17 x.g y_.g
 simp only [show grE x.g y_.g = false from by rw [Bool.eq_false_iff]; exact fun h => nk ((grE_iff _ _).1 h), Bool.not_false] at Hgr
 obtain ⟨G, W, hG, hW, K0, hb0⟩ := (Mem.nil w).one (pbc x) 34
 obtain ⟨Q, V, hQ, hV, K, hb2⟩ := K0.out.one (pbc y_) 34
 have Hcell := hid (fun X (h : Mem w X [(Q, pbc y_, 34), (G, pbc x, 34)]) => And.intro (h.pb (B := G) (x := x) (t := 34) (by simp)) (h.pb (B := Q) (x := y_) (t := 34) (by simp)))
 obtain ⟨⟨p0, p1, p2, p3, p4, p5, p6, p7, p8, p9, p10, p11, p12, p13, p14⟩, s0, s1, s2, s3, s4, s5, s6, s7, s8, s9, s10, s11, s12, s13, s14⟩ := Hcell.out _ K.out
 clear K0 hb0 hb2 h1 h2 nk e0
 go_enter Tryz.func20, Tryz.ntmps20
 iterate 17 (first | go_values | go_skip | go_guarded | go_step | go_upon | go_back)
 simp only [List.append_eq, List.cons_append, List.nil_append]
 rename_i Kx a2
 have AH := hid a2
 clear a2
 go_wp2_with fail
 refine AH.out _ _ ?_
 clear AH
 go_wp2_with fail
 go_ret
 exact ⟨false, rfl, by first | exact ⟨fun h => (by cases h), fun h => absurd h hne⟩ | exact ⟨fun h => (by cases h), fun h => False.elim h⟩, K.out.2⟩
set_option maxRecDepth 40000 in
set_option maxHeartbeats 32000000 in
theorem r17_Same_2 (x y_ : PbA) (w : World) (h1 : PbIn w x) (h2 : PbIn w y_) (e0 : x.n = y_.n) (e1 : x.g = y_.g) (nk : ¬ (x.w0 = y_.w0 ∧ x.w1 = y_.w1 ∧ x.w2 = y_.w2 ∧ x.w3 = y_.w3)) : Calls Tryz.prog 20 #[pbv x, pbv y_] w (CtRet (x.p = y_.p) w) := by
 have hne : ¬ x.p = y_.p := fun e => nk ((pb_same17 x y_).1 e).2.2.1
 have q0 : ((bs x.n).toList == (bs y_.n).toList) = decide (x.n = y_.n) := by rw [list_of, list_of, bs_data, bs_data]; by_cases h : x.n = y_.n <;> simp [h]
 rw [decide_eq_true e0] at q0
 have Hgr := gr_neq17 x.g y_.g
 simp only [show grE x.g y_.g = true from (grE_iff _ _).2 e1, Bool.not_true] at Hgr
 have Hwg := wg_neq17 x.w0 x.w1 x.w2 x.w3 y_.w0 y_.w1 y_.w2 y_.w3
 simp only [show wgE x.w0 x.w1 x.w2 x.w3 y_.w0 y_.w1 y_.w2 y_.w3 = false from by rw [Bool.eq_false_iff]; exact fun h => nk ((wgE_iff _ _ _ _ _ _ _ _).1 h), Bool.not_false] at Hwg
 obtain ⟨G, W, hG, hW, K0, hb0⟩ := (Mem.nil w).one (pbc x) 34
 obtain ⟨Q, V, hQ, hV, K, hb2⟩ := K0.out.one (pbc y_) 34
 have Hcell := hid (fun X (h : Mem w X [(Q, pbc y_, 34), (G, pbc x, 34)]) => And.intro (h.pb (B := G) (x := x) (t := 34) (by simp)) (h.pb (B := Q) (x := y_) (t := 34) (by simp)))
 obtain ⟨⟨p0, p1, p2, p3, p4, p5, p6, p7, p8, p9, p10, p11, p12, p13, p14⟩, s0, s1, s2, s3, s4, s5, s6, s7, s8, s9, s10, s11, s12, s13, s14⟩ := Hcell.out _ K.out
 clear K0 hb0 hb2 h1 h2 nk e0 e1
 go_enter Tryz.func20, Tryz.ntmps20
 iterate 17 (first | go_values | go_skip | go_guarded | go_step | go_upon | go_back)
 simp only [List.append_eq, List.cons_append, List.nil_append]
 rename_i Kx a2
 have AH := hid a2
 clear a2
 go_wp2_with fail
 refine AH.out _ _ ?_
 clear AH
 go_wp2_with fail
 go_ret
 exact ⟨false, rfl, by first | exact ⟨fun h => (by cases h), fun h => absurd h hne⟩ | exact ⟨fun h => (by cases h), fun h => False.elim h⟩, K.out.2⟩
set_option maxRecDepth 40000 in
set_option maxHeartbeats 32000000 in
theorem r17_Same_3 (x y_ : PbA) (w : World) (h1 : PbIn w x) (h2 : PbIn w y_) (e0 : x.n = y_.n) (e1 : x.g = y_.g) (e2 : (x.w0 = y_.w0 ∧ x.w1 = y_.w1 ∧ x.w2 = y_.w2 ∧ x.w3 = y_.w3)) (nk : ¬ x.wk = y_.wk) : Calls Tryz.prog 20 #[pbv x, pbv y_] w (CtRet (x.p = y_.p) w) := by
 have hne : ¬ x.p = y_.p := fun e => nk ((pb_same17 x y_).1 e).2.2.2.1
 have q0 : ((bs x.n).toList == (bs y_.n).toList) = decide (x.n = y_.n) := by rw [list_of, list_of, bs_data, bs_data]; by_cases h : x.n = y_.n <;> simp [h]
 rw [decide_eq_true e0] at q0
 have Hgr := gr_neq17 x.g y_.g
 simp only [show grE x.g y_.g = true from (grE_iff _ _).2 e1, Bool.not_true] at Hgr
 have Hwg := wg_neq17 x.w0 x.w1 x.w2 x.w3 y_.w0 y_.w1 y_.w2 y_.w3
 simp only [show wgE x.w0 x.w1 x.w2 x.w3 y_.w0 y_.w1 y_.w2 y_.w3 = true from (wgE_iff _ _ _ _ _ _ _ _).2 e2, Bool.not_true] at Hwg
 have HRw := hid (fun X (hb : Below w.heap.size w X) => r_Rows14 x.r1 y_.r1 x.c1 y_.c1 x.wk y_.wk ⟨by have := h1.wkC; omega, h1.wkI⟩ X (Rows2.next h1.wk hb) (Rows2.next h2.wk hb))
 rw [decide_eq_false nk] at HRw
 obtain ⟨G, W, hG, hW, K0, hb0⟩ := (Mem.nil w).one (pbc x) 34
 obtain ⟨Q, V, hQ, hV, K, hb2⟩ := K0.out.one (pbc y_) 34
 have Hcell := hid (fun X (h : Mem w X [(Q, pbc y_, 34), (G, pbc x, 34)]) => And.intro (h.pb (B := G) (x := x) (t := 34) (by simp)) (h.pb (B := Q) (x := y_) (t := 34) (by simp)))
 obtain ⟨⟨p0, p1, p2, p3, p4, p5, p6, p7, p8, p9, p10, p11, p12, p13, p14⟩, s0, s1, s2, s3, s4, s5, s6, s7, s8, s9, s10, s11, s12, s13, s14⟩ := Hcell.out _ K.out
 clear K0 hb0 hb2 h1 h2 nk e0 e1 e2
 go_enter Tryz.func20, Tryz.ntmps20
 iterate 17 (first | go_values | go_skip | go_guarded | go_step | go_upon | go_back)
 simp only [List.append_eq, List.cons_append, List.nil_append]
 rename_i Kx a2
 have AH := hid a2
 clear a2
 go_wp2_with fail
 refine (HRw.out _ K.out.2).mono ?_
 rintro e Y ⟨rfl, bz⟩
 have K1 := hid (K.out.next bz)
 clear p0 p1 p2 p3 p4 p5 p6 p7 p8 p9 p10 p11 p12 p13 p14 s0 s1 s2 s3 s4 s5 s6 s7 s8 s9 s10 s11 s12 s13 s14 bz
 obtain ⟨⟨p0, p1, p2, p3, p4, p5, p6, p7, p8, p9, p10, p11, p12, p13, p14⟩, s0, s1, s2, s3, s4, s5, s6, s7, s8, s9, s10, s11, s12, s13, s14⟩ := Hcell.out _ K1.out
 clear hW hV K
 go_wp2_with fail
 refine AH.out _ _ ?_
 clear AH
 go_wp2_with fail
 go_ret
 exact ⟨false, rfl, by first | exact ⟨fun h => (by cases h), fun h => absurd h hne⟩ | exact ⟨fun h => (by cases h), fun h => False.elim h⟩, K1.out.2⟩
set_option maxRecDepth 40000 in
set_option maxHeartbeats 32000000 in
theorem r17_Same_4 (x y_ : PbA) (w : World) (h1 : PbIn w x) (h2 : PbIn w y_) (e0 : x.n = y_.n) (e1 : x.g = y_.g) (e2 : (x.w0 = y_.w0 ∧ x.w1 = y_.w1 ∧ x.w2 = y_.w2 ∧ x.w3 = y_.w3)) (e3 : x.wk = y_.wk) (nk : ¬ x.rm.length = y_.rm.length) : Calls Tryz.prog 20 #[pbv x, pbv y_] w (CtRet (x.p = y_.p) w) := by
 have hne : ¬ x.p = y_.p := fun e => nk (len_of_map17 ((pb_same17 x y_).1 e).2.2.2.2.1)
 have q0 : ((bs x.n).toList == (bs y_.n).toList) = decide (x.n = y_.n) := by rw [list_of, list_of, bs_data, bs_data]; by_cases h : x.n = y_.n <;> simp [h]
 rw [decide_eq_true e0] at q0
 have Hgr := gr_neq17 x.g y_.g
 simp only [show grE x.g y_.g = true from (grE_iff _ _).2 e1, Bool.not_true] at Hgr
 have Hwg := wg_neq17 x.w0 x.w1 x.w2 x.w3 y_.w0 y_.w1 y_.w2 y_.w3
 simp only [show wgE x.w0 x.w1 x.w2 x.w3 y_.w0 y_.w1 y_.w2 y_.w3 = true from (wgE_iff _ _ _ _ _ _ _ _).2 e2, Bool.not_true] at Hwg
 have HRw := hid (fun X (hb : Below w.heap.size w X) => r_Rows14 x.r1 y_.r1 x.c1 y_.c1 x.wk y_.wk ⟨by have := h1.wkC; omega, h1.wkI⟩ X (Rows2.next h1.wk hb) (Rows2.next h2.wk hb))
 rw [decide_eq_true e3] at HRw
 have hl4 : ¬ (x.rm.length : Int) = (y_.rm.length : Int) := by omega
 obtain ⟨G, W, hG, hW, K0, hb0⟩ := (Mem.nil w).one (pbc x) 34
 obtain ⟨Q, V, hQ, hV, K, hb2⟩ := K0.out.one (pbc y_) 34
 have Hcell := hid (fun X (h : Mem w X [(Q, pbc y_, 34), (G, pbc x, 34)]) => And.intro (h.pb (B := G) (x := x) (t := 34) (by simp)) (h.pb (B := Q) (x := y_) (t := 34) (by simp)))
 obtain ⟨⟨p0, p1, p2, p3, p4, p5, p6, p7, p8, p9, p10, p11, p12, p13, p14⟩, s0, s1, s2, s3, s4, s5, s6, s7, s8, s9, s10, s11, s12, s13, s14⟩ := Hcell.out _ K.out
 clear K0 hb0 hb2 h1 h2 nk e0 e1 e2 e3
 go_enter Tryz.func20, Tryz.ntmps20
 iterate 17 (first | go_values | go_skip | go_guarded | go_step | go_upon | go_back)
 simp only [List.append_eq, List.cons_append, List.nil_append]
 rename_i Kx a2
 have AH := hid a2
 clear a2
 go_wp2_with fail
 refine (HRw.out _ K.out.2).mono ?_
 rintro e Y ⟨rfl, bz⟩
 have K1 := hid (K.out.next bz)
 clear p0 p1 p2 p3 p4 p5 p6 p7 p8 p9 p10 p11 p12 p13 p14 s0 s1 s2 s3 s4 s5 s6 s7 s8 s9 s10 s11 s12 s13 s14 bz
 obtain ⟨⟨p0, p1, p2, p3, p4, p5, p6, p7, p8, p9, p10, p11, p12, p13, p14⟩, s0, s1, s2, s3, s4, s5, s6, s7, s8, s9, s10, s11, s12, s13, s14⟩ := Hcell.out _ K1.out
 clear hW hV K
 go_wp2_with fail
 refine AH.out _ _ ?_
 clear AH
 go_wp2_with fail
 go_ret
 exact ⟨false, rfl, by first | exact ⟨fun h => (by cases h), fun h => absurd h hne⟩ | exact ⟨fun h => (by cases h), fun h => False.elim h⟩, K1.out.2⟩
set_option maxRecDepth 40000 in
set_option maxHeartbeats 32000000 in
theorem r17_Same_5 (x y_ : PbA) (w : World) (h1 : PbIn w x) (h2 : PbIn w y_) (e0 : x.n = y_.n) (e1 : x.g = y_.g) (e2 : (x.w0 = y_.w0 ∧ x.w1 = y_.w1 ∧ x.w2 = y_.w2 ∧ x.w3 = y_.w3)) (e3 : x.wk = y_.wk) (e4 : x.rm.length = y_.rm.length) (nk : ¬ x.ps.length = y_.ps.length) : Calls Tryz.prog 20 #[pbv x, pbv y_] w (CtRet (x.p = y_.p) w) := by
 have hne : ¬ x.p = y_.p := fun e => nk (len_of_map17 ((pb_same17 x y_).1 e).2.2.2.2.2.1)
 have q0 : ((bs x.n).toList == (bs y_.n).toList) = decide (x.n = y_.n) := by rw [list_of, list_of, bs_data, bs_data]; by_cases h : x.n = y_.n <;> simp [h]
 rw [decide_eq_true e0] at q0
 have Hgr := gr_neq17 x.g y_.g
 simp only [show grE x.g y_.g = true from (grE_iff _ _).2 e1, Bool.not_true] at Hgr
 have Hwg := wg_neq17 x.w0 x.w1 x.w2 x.w3 y_.w0 y_.w1 y_.w2 y_.w3
 simp only [show wgE x.w0 x.w1 x.w2 x.w3 y_.w0 y_.w1 y_.w2 y_.w3 = true from (wgE_iff _ _ _ _ _ _ _ _).2 e2, Bool.not_true] at Hwg
 have HRw := hid (fun X (hb : Below w.heap.size w X) => r_Rows14 x.r1 y_.r1 x.c1 y_.c1 x.wk y_.wk ⟨by have := h1.wkC; omega, h1.wkI⟩ X (Rows2.next h1.wk hb) (Rows2.next h2.wk hb))
 rw [decide_eq_true e3] at HRw
 have hl4 : (x.rm.length : Int) = (y_.rm.length : Int) := by omega
 have hl5 : ¬ (x.ps.length : Int) = (y_.ps.length : Int) := by omega
 obtain ⟨G, W, hG, hW, K0, hb0⟩ := (Mem.nil w).one (pbc x) 34
 obtain ⟨Q, V, hQ, hV, K, hb2⟩ := K0.out.one (pbc y_) 34
 have Hcell := hid (fun X (h : Mem w X [(Q, pbc y_, 34), (G, pbc x, 34)]) => And.intro (h.pb (B := G) (x := x) (t := 34) (by simp)) (h.pb (B := Q) (x := y_) (t := 34) (by simp)))
 obtain ⟨⟨p0, p1, p2, p3, p4, p5, p6, p7, p8, p9, p10, p11, p12, p13, p14⟩, s0, s1, s2, s3, s4, s5, s6, s7, s8, s9, s10, s11, s12, s13, s14⟩ := Hcell.out _ K.out
 clear K0 hb0 hb2 h1 h2 nk e0 e1 e2 e3 e4
 go_enter Tryz.func20, Tryz.ntmps20
 iterate 17 (first | go_values | go_skip | go_guarded | go_step | go_upon | go_back)
 simp only [List.append_eq, List.cons_append, List.nil_append]
 rename_i Kx a2
 have AH := hid a2
 clear a2
 go_wp2_with fail
 refine (HRw.out _ K.out.2).mono ?_
 rintro e Y ⟨rfl, bz⟩
 have K1 := hid (K.out.next bz)
 clear p0 p1 p2 p3 p4 p5 p6 p7 p8 p9 p10 p11 p12 p13 p14 s0 s1 s2 s3 s4 s5 s6 s7 s8 s9 s10 s11 s12 s13 s14 bz
 obtain ⟨⟨p0, p1, p2, p3, p4, p5, p6, p7, p8, p9, p10, p11, p12, p13, p14⟩, s0, s1, s2, s3, s4, s5, s6, s7, s8, s9, s10, s11, s12, s13, s14⟩ := Hcell.out _ K1.out
 clear hW hV K
 go_wp2_with fail
 refine AH.out _ _ ?_
 clear AH
 go_wp2_with fail
 go_ret
 exact ⟨false, rfl, by first | exact ⟨fun h => (by cases h), fun h => absurd h hne⟩ | exact ⟨fun h => (by cases h), fun h => False.elim h⟩, K1.out.2⟩
set_option maxRecDepth 40000 in
set_option maxHeartbeats 32000000 in
theorem r17_Same_6 (x y_ : PbA) (w : World) (h1 : PbIn w x) (h2 : PbIn w y_) (e0 : x.n = y_.n) (e1 : x.g = y_.g) (e2 : (x.w0 = y_.w0 ∧ x.w1 = y_.w1 ∧ x.w2 = y_.w2 ∧ x.w3 = y_.w3)) (e3 : x.wk = y_.wk) (e4 : x.rm.length = y_.rm.length) (e5 : x.ps.length = y_.ps.length) (nk : ¬ x.cl.length = y_.cl.length) : Calls Tryz.prog 20 #[pbv x, pbv y_] w (CtRet (x.p = y_.p) w) := by
 have hne : ¬ x.p = y_.p := fun e => nk (len_of_map17 ((pb_same17 x y_).1 e).2.2.2.2.2.2.1)
 have q0 : ((bs x.n).toList == (bs y_.n).toList) = decide (x.n = y_.n) := by rw [list_of, list_of, bs_data, bs_data]; by_cases h : x.n = y_.n <;> simp [h]
 rw [decide_eq_true e0] at q0
 have Hgr := gr_neq17 x.g y_.g
 simp only [show grE x.g y_.g = true from (grE_iff _ _).2 e1, Bool.not_true] at Hgr
 have Hwg := wg_neq17 x.w0 x.w1 x.w2 x.w3 y_.w0 y_.w1 y_.w2 y_.w3
 simp only [show wgE x.w0 x.w1 x.w2 x.w3 y_.w0 y_.w1 y_.w2 y_.w3 = true from (wgE_iff _ _ _ _ _ _ _ _).2 e2, Bool.not_true] at Hwg
 have HRw := hid (fun X (hb : Below w.heap.size w X) => r_Rows14 x.r1 y_.r1 x.c1 y_.c1 x.wk y_.wk ⟨by have := h1.wkC; omega, h1.wkI⟩ X (Rows2.next h1.wk hb) (Rows2.next h2.wk hb))
 rw [decide_eq_true e3] at HRw
 have hl4 : (x.rm.length : Int) = (y_.rm.length : Int) := by omega
 have hl5 : (x.ps.length : Int) = (y_.ps.length : Int) := by omega
 have hl6 : ¬ (x.cl.length : Int) = (y_.cl.length : Int) := by omega
 obtain ⟨G, W, hG, hW, K0, hb0⟩ := (Mem.nil w).one (pbc x) 34
 obtain ⟨Q, V, hQ, hV, K, hb2⟩ := K0.out.one (pbc y_) 34
 have Hcell := hid (fun X (h : Mem w X [(Q, pbc y_, 34), (G, pbc x, 34)]) => And.intro (h.pb (B := G) (x := x) (t := 34) (by simp)) (h.pb (B := Q) (x := y_) (t := 34) (by simp)))
 obtain ⟨⟨p0, p1, p2, p3, p4, p5, p6, p7, p8, p9, p10, p11, p12, p13, p14⟩, s0, s1, s2, s3, s4, s5, s6, s7, s8, s9, s10, s11, s12, s13, s14⟩ := Hcell.out _ K.out
 clear K0 hb0 hb2 h1 h2 nk e0 e1 e2 e3 e4 e5
 go_enter Tryz.func20, Tryz.ntmps20
 iterate 17 (first | go_values | go_skip | go_guarded | go_step | go_upon | go_back)
 simp only [List.append_eq, List.cons_append, List.nil_append]
 rename_i Kx a2
 have AH := hid a2
 clear a2
 go_wp2_with fail
 refine (HRw.out _ K.out.2).mono ?_
 rintro e Y ⟨rfl, bz⟩
 have K1 := hid (K.out.next bz)
 clear p0 p1 p2 p3 p4 p5 p6 p7 p8 p9 p10 p11 p12 p13 p14 s0 s1 s2 s3 s4 s5 s6 s7 s8 s9 s10 s11 s12 s13 s14 bz
 obtain ⟨⟨p0, p1, p2, p3, p4, p5, p6, p7, p8, p9, p10, p11, p12, p13, p14⟩, s0, s1, s2, s3, s4, s5, s6, s7, s8, s9, s10, s11, s12, s13, s14⟩ := Hcell.out _ K1.out
 clear hW hV K
 go_wp2_with fail
 refine AH.out _ _ ?_
 clear AH
 go_wp2_with fail
 go_ret
 exact ⟨false, rfl, by first | exact ⟨fun h => (by cases h), fun h => absurd h hne⟩ | exact ⟨fun h => (by cases h), fun h => False.elim h⟩, K1.out.2⟩
set_option maxRecDepth 40000 in
set_option maxHeartbeats 32000000 in
theorem r17_Same_7 (x y_ : PbA) (w : World) (h1 : PbIn w x) (h2 : PbIn w y_) (e0 : x.n = y_.n) (e1 : x.g = y_.g) (e2 : (x.w0 = y_.w0 ∧ x.w1 = y_.w1 ∧ x.w2 = y_.w2 ∧ x.w3 = y_.w3)) (e3 : x.wk = y_.wk) (e4 : x.rm.length = y_.rm.length) (e5 : x.ps.length = y_.ps.length) (e6 : x.cl.length = y_.cl.length) (nk : ¬ x.cs.length = y_.cs.length) : Calls Tryz.prog 20 #[pbv x, pbv y_] w (CtRet (x.p = y_.p) w) := by
 have hne : ¬ x.p = y_.p := fun e => nk (len_of_map17 ((pb_same17 x y_).1 e).2.2.2.2.2.2.2.1)
 have q0 : ((bs x.n).toList == (bs y_.n).toList) = decide (x.n = y_.n) := by rw [list_of, list_of, bs_data, bs_data]; by_cases h : x.n = y_.n <;> simp [h]
 rw [decide_eq_true e0] at q0
 have Hgr := gr_neq17 x.g y_.g
 simp only [show grE x.g y_.g = true from (grE_iff _ _).2 e1, Bool.not_true] at Hgr
 have Hwg := wg_neq17 x.w0 x.w1 x.w2 x.w3 y_.w0 y_.w1 y_.w2 y_.w3
 simp only [show wgE x.w0 x.w1 x.w2 x.w3 y_.w0 y_.w1 y_.w2 y_.w3 = true from (wgE_iff _ _ _ _ _ _ _ _).2 e2, Bool.not_true] at Hwg
 have HRw := hid (fun X (hb : Below w.heap.size w X) => r_Rows14 x.r1 y_.r1 x.c1 y_.c1 x.wk y_.wk ⟨by have := h1.wkC; omega, h1.wkI⟩ X (Rows2.next h1.wk hb) (Rows2.next h2.wk hb))
 rw [decide_eq_true e3] at HRw
 have hl4 : (x.rm.length : Int) = (y_.rm.length : Int) := by omega
 have hl5 : (x.ps.length : Int) = (y_.ps.length : Int) := by omega
 have hl6 : (x.cl.length : Int) = (y_.cl.length : Int) := by omega
 have hl7 : ¬ (x.cs.length : Int) = (y_.cs.length : Int) := by omega
 obtain ⟨G, W, hG, hW, K0, hb0⟩ := (Mem.nil w).one (pbc x) 34
 obtain ⟨Q, V, hQ, hV, K, hb2⟩ := K0.out.one (pbc y_) 34
 have Hcell := hid (fun X (h : Mem w X [(Q, pbc y_, 34), (G, pbc x, 34)]) => And.intro (h.pb (B := G) (x := x) (t := 34) (by simp)) (h.pb (B := Q) (x := y_) (t := 34) (by simp)))
 obtain ⟨⟨p0, p1, p2, p3, p4, p5, p6, p7, p8, p9, p10, p11, p12, p13, p14⟩, s0, s1, s2, s3, s4, s5, s6, s7, s8, s9, s10, s11, s12, s13, s14⟩ := Hcell.out _ K.out
 clear K0 hb0 hb2 h1 h2 nk e0 e1 e2 e3 e4 e5 e6
 go_enter Tryz.func20, Tryz.ntmps20
 iterate 17 (first | go_values | go_skip | go_guarded | go_step | go_upon | go_back)
 simp only [List.append_eq, List.cons_append, List.nil_append]
 rename_i Kx a2
 have AH := hid a2
 clear a2
 go_wp2_with fail
 refine (HRw.out _ K.out.2).mono ?_
 rintro e Y ⟨rfl, bz⟩
 have K1 := hid (K.out.next bz)
 clear p0 p1 p2 p3 p4 p5 p6 p7 p8 p9 p10 p11 p12 p13 p14 s0 s1 s2 s3 s4 s5 s6 s7 s8 s9 s10 s11 s12 s13 s14 bz
 obtain ⟨⟨p0, p1, p2, p3, p4, p5, p6, p7, p8, p9, p10, p11, p12, p13, p14⟩, s0, s1, s2, s3, s4, s5, s6, s7, s8, s9, s10, s11, s12, s13, s14⟩ := Hcell.out _ K1.out
 clear hW hV K
 go_wp2_with fail
 refine AH.out _ _ ?_
 clear AH
 go_wp2_with fail
 go_ret
 exact ⟨false, rfl, by first | exact ⟨fun h => (by cases h), fun h => absurd h hne⟩ | exact ⟨fun h => (by cases h), fun h => False.elim h⟩, K1.out.2⟩
set_option maxRecDepth 40000 in
set_option maxHeartbeats 32000000 in
theorem r17_Same_8 (x y_ : PbA) (w : World) (h1 : PbIn w x) (h2 : PbIn w y_) (e0 : x.n = y_.n) (e1 : x.g = y_.g) (e2 : (x.w0 = y_.w0 ∧ x.w1 = y_.w1 ∧ x.w2 = y_.w2 ∧ x.w3 = y_.w3)) (e3 : x.wk = y_.wk) (e4 : x.rm.length = y_.rm.length) (e5 : x.ps.length = y_.ps.length) (e6 : x.cl.length = y_.cl.length) (e7 : x.cs.length = y_.cs.length) (nk : ¬ x.st.length = y_.st.length) : Calls Tryz.prog 20 #[pbv x, pbv y_] w (CtRet (x.p = y_.p) w) := by
 have hne : ¬ x.p = y_.p := fun e => nk (len_of_map17 ((pb_same17 x y_).1 e).2.2.2.2.2.2.2.2.1)
 have q0 : ((bs x.n).toList == (bs y_.n).toList) = decide (x.n = y_.n) := by rw [list_of, list_of, bs_data, bs_data]; by_cases h : x.n = y_.n <;> simp [h]
 rw [decide_eq_true e0] at q0
 have Hgr := gr_neq17 x.g y_.g
 simp only [show grE x.g y_.g = true from (grE_iff _ _).2 e1, Bool.not_true] at Hgr
 have Hwg := wg_neq17 x.w0 x.w1 x.w2 x.w3 y_.w0 y_.w1 y_.w2 y_.w3
 simp only [show wgE x.w0 x.w1 x.w2 x.w3 y_.w0 y_.w1 y_.w2 y_.w3 = true from (wgE_iff _ _ _ _ _ _ _ _).2 e2, Bool.not_true] at Hwg
 have HRw := hid (fun X (hb : Below w.heap.size w X) => r_Rows14 x.r1 y_.r1 x.c1 y_.c1 x.wk y_.wk ⟨by have := h1.wkC; omega, h1.wkI⟩ X (Rows2.next h1.wk hb) (Rows2.next h2.wk hb))
 rw [decide_eq_true e3] at HRw
 have hl4 : (x.rm.length : Int) = (y_.rm.length : Int) := by omega
 have hl5 : (x.ps.length : Int) = (y_.ps.length : Int) := by omega
 have hl6 : (x.cl.length : Int) = (y_.cl.length : Int) := by omega
 have hl7 : (x.cs.length : Int) = (y_.cs.length : Int) := by omega
 have hl8 : ¬ (x.st.length : Int) = (y_.st.length : Int) := by omega
 obtain ⟨G, W, hG, hW, K0, hb0⟩ := (Mem.nil w).one (pbc x) 34
 obtain ⟨Q, V, hQ, hV, K, hb2⟩ := K0.out.one (pbc y_) 34
 have Hcell := hid (fun X (h : Mem w X [(Q, pbc y_, 34), (G, pbc x, 34)]) => And.intro (h.pb (B := G) (x := x) (t := 34) (by simp)) (h.pb (B := Q) (x := y_) (t := 34) (by simp)))
 obtain ⟨⟨p0, p1, p2, p3, p4, p5, p6, p7, p8, p9, p10, p11, p12, p13, p14⟩, s0, s1, s2, s3, s4, s5, s6, s7, s8, s9, s10, s11, s12, s13, s14⟩ := Hcell.out _ K.out
 clear K0 hb0 hb2 h1 h2 nk e0 e1 e2 e3 e4 e5 e6 e7
 go_enter Tryz.func20, Tryz.ntmps20
 iterate 17 (first | go_values | go_skip | go_guarded | go_step | go_upon | go_back)
 simp only [List.append_eq, List.cons_append, List.nil_append]
 rename_i Kx a2
 have AH := hid a2
 clear a2
 go_wp2_with fail
 refine (HRw.out _ K.out.2).mono ?_
 rintro e Y ⟨rfl, bz⟩
 have K1 := hid (K.out.next bz)
 clear p0 p1 p2 p3 p4 p5 p6 p7 p8 p9 p10 p11 p12 p13 p14 s0 s1 s2 s3 s4 s5 s6 s7 s8 s9 s10 s11 s12 s13 s14 bz
 obtain ⟨⟨p0, p1, p2, p3, p4, p5, p6, p7, p8, p9, p10, p11, p12, p13, p14⟩, s0, s1, s2, s3, s4, s5, s6, s7, s8, s9, s10, s11, s12, s13, s14⟩ := Hcell.out _ K1.out
 clear hW hV K
 go_wp2_with fail
 refine AH.out _ _ ?_
 clear AH
 go_wp2_with fail
 go_ret
 exact ⟨false, rfl, by first | exact ⟨fun h => (by cases h), fun h => absurd h hne⟩ | exact ⟨fun h => (by cases h), fun h => False.elim h⟩, K1.out.2⟩
set_option maxRecDepth 40000 in
set_option maxHeartbeats 32000000 in
theorem r17_Same_9 (x y_ : PbA) (w : World) (h1 : PbIn w x) (h2 : PbIn w y_) (e0 : x.n = y_.n) (e1 : x.g = y_.g) (e2 : (x.w0 = y_.w0 ∧ x.w1 = y_.w1 ∧ x.w2 = y_.w2 ∧ x.w3 = y_.w3)) (e3 : x.wk = y_.wk) (e4 : x.rm.length = y_.rm.length) (e5 : x.ps.length = y_.ps.length) (e6 : x.cl.length = y_.cl.length) (e7 : x.cs.length = y_.cs.length) (e8 : x.st.length = y_.st.length) (nk : ¬ x.rl.length = y_.rl.length) : Calls Tryz.prog 20 #[pbv x, pbv y_] w (CtRet (x.p = y_.p) w) := by
 have hne : ¬ x.p = y_.p := fun e => nk (len_of_map17 ((pb_same17 x y_).1 e).2.2.2.2.2.2.2.2.2)
 have q0 : ((bs x.n).toList == (bs y_.n).toList) = decide (x.n = y_.n) := by rw [list_of, list_of, bs_data, bs_data]; by_cases h : x.n = y_.n <;> simp [h]
 rw [decide_eq_true e0] at q0
 have Hgr := gr_neq17 x.g y_.g
 simp only [show grE x.g y_.g = true from (grE_iff _ _).2 e1, Bool.not_true] at Hgr
 have Hwg := wg_neq17 x.w0 x.w1 x.w2 x.w3 y_.w0 y_.w1 y_.w2 y_.w3
 simp only [show wgE x.w0 x.w1 x.w2 x.w3 y_.w0 y_.w1 y_.w2 y_.w3 = true from (wgE_iff _ _ _ _ _ _ _ _).2 e2, Bool.not_true] at Hwg
 have HRw := hid (fun X (hb : Below w.heap.size w X) => r_Rows14 x.r1 y_.r1 x.c1 y_.c1 x.wk y_.wk ⟨by have := h1.wkC; omega, h1.wkI⟩ X (Rows2.next h1.wk hb) (Rows2.next h2.wk hb))
 rw [decide_eq_true e3] at HRw
 have hl4 : (x.rm.length : Int) = (y_.rm.length : Int) := by omega
 have hl5 : (x.ps.length : Int) = (y_.ps.length : Int) := by omega
 have hl6 : (x.cl.length : Int) = (y_.cl.length : Int) := by omega
 have hl7 : (x.cs.length : Int) = (y_.cs.length : Int) := by omega
 have hl8 : (x.st.length : Int) = (y_.st.length : Int) := by omega
 have hl9 : ¬ (x.rl.length : Int) = (y_.rl.length : Int) := by omega
 obtain ⟨G, W, hG, hW, K0, hb0⟩ := (Mem.nil w).one (pbc x) 34
 obtain ⟨Q, V, hQ, hV, K, hb2⟩ := K0.out.one (pbc y_) 34
 have Hcell := hid (fun X (h : Mem w X [(Q, pbc y_, 34), (G, pbc x, 34)]) => And.intro (h.pb (B := G) (x := x) (t := 34) (by simp)) (h.pb (B := Q) (x := y_) (t := 34) (by simp)))
 obtain ⟨⟨p0, p1, p2, p3, p4, p5, p6, p7, p8, p9, p10, p11, p12, p13, p14⟩, s0, s1, s2, s3, s4, s5, s6, s7, s8, s9, s10, s11, s12, s13, s14⟩ := Hcell.out _ K.out
 clear K0 hb0 hb2 h1 h2 nk e0 e1 e2 e3 e4 e5 e6 e7 e8
 go_enter Tryz.func20, Tryz.ntmps20
 iterate 17 (first | go_values | go_skip | go_guarded | go_step | go_upon | go_back)
 simp only [List.append_eq, List.cons_append, List.nil_append]
 rename_i Kx a2
 have AH := hid a2
 clear a2
 go_wp2_with fail
 refine (HRw.out _ K.out.2).mono ?_
 rintro e Y ⟨rfl, bz⟩
 have K1 := hid (K.out.next bz)
 clear p0 p1 p2 p3 p4 p5 p6 p7 p8 p9 p10 p11 p12 p13 p14 s0 s1 s2 s3 s4 s5 s6 s7 s8 s9 s10 s11 s12 s13 s14 bz
 obtain ⟨⟨p0, p1, p2, p3, p4, p5, p6, p7, p8, p9, p10, p11, p12, p13, p14⟩, s0, s1, s2, s3, s4, s5, s6, s7, s8, s9, s10, s11, s12, s13, s14⟩ := Hcell.out _ K1.out
 clear hW hV K
 go_wp2_with fail
 refine AH.out _ _ ?_
 clear AH
 go_wp2_with fail
 go_ret
 exact ⟨false, rfl, by first | exact ⟨fun h => (by cases h), fun h => absurd h hne⟩ | exact ⟨fun h => (by cases h), fun h => False.elim h⟩, K1.out.2⟩
end Go.Proofs.YtgmgccepmalahaaGreat
