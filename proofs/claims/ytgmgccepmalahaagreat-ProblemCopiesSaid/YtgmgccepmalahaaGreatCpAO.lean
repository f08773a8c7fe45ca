/- What the proof of ProblemCopies stands on, part 15. -/
import Derived.Deep.DeepCutAuto
import Derived.Test.YtgmgccepmalahaaGreatCpAD
import Derived.Test.YtgmgccepmalahaaGreatCpAF
import Derived.Test.YtgmgccepmalahaaGreatCpAN
namespace Go.Proofs.YtgmgccepmalahaaGreat
open Go.RowKit
open Whn (Gr Wh)
def grE (a b : Gr) : Bool := decide (a.w = b.w) && (decide (a.d = b.d) && decide (a.s = b.s))
def wgE (a0 a1 a2 a3 b0 b1 b2 b3 : Int) : Bool := decide (a0 = b0) && (decide (a1 = b1) && (decide (a2 = b2) && decide (a3 = b3)))
theorem gr_eql (a b : Gr) (w : World) : (binOp .eql 23 (gv a) (gv b)).run Tryz.prog w = .ok (.bool (grE a b)) w := by
 go_simp
 unfold grE
 by_cases h1 : a.w = b.w
 · by_cases h2 : a.d = b.d
   · by_cases h3 : a.s = b.s
     · simp [h1, h2, h3]
     · simp [h1, h2, h3]
   · simp [h1, h2]
 · simp [h1]
theorem wg_eql (a0 a1 a2 a3 b0 b1 b2 b3 : Int) (w : World) : (binOp .eql 32 (wgv a0 a1 a2 a3) (wgv b0 b1 b2 b3)).run Tryz.prog w = .ok (.bool (wgE a0 a1 a2 a3 b0 b1 b2 b3)) w := by
 go_simp
 unfold wgE
 by_cases h1 : a0 = b0
 · by_cases h2 : a1 = b1
   · by_cases h3 : a2 = b2
     · by_cases h4 : a3 = b3
       · simp [h1, h2, h3, h4]
       · simp [h1, h2, h3, h4]
     · simp [h1, h2, h3]
   · simp [h1, h2]
 · simp [h1]
set_option maxRecDepth 20000 in
set_option maxHeartbeats 16000000 in
theorem p_SameG (x y : PbA) (w : World) (b0 b1 b2 b3 b4 b5 b6 : Bool)
 (H0 : ∀ X, Below w.heap.size w X → Calls Tryz.prog 83 #[.slice x.r0 x.rm.length x.c0, .slice y.r0 y.rm.length y.c0, .func (.func 84) #[] #[]] X (Did (.bool b0) X))
 (H1 : ∀ X, Below w.heap.size w X → Calls Tryz.prog 85 #[.slice x.r1 x.wk.length x.c1, .slice y.r1 y.wk.length y.c1, .func (.func 86) #[] #[]] X (Did (.bool b1) X))
 (H2 : ∀ X, Below w.heap.size w X → Calls Tryz.prog 87 #[.slice x.r2 x.ps.length x.c2, .slice y.r2 y.ps.length y.c2, .func (.func 88) #[] #[]] X (Did (.bool b2) X))
 (H3 : ∀ X, Below w.heap.size w X → Calls Tryz.prog 89 #[.slice x.r3 x.cl.length x.c3, .slice y.r3 y.cl.length y.c3, .func (.func 90) #[] #[]] X (Did (.bool b3) X))
 (H4 : ∀ X, Below w.heap.size w X → Calls Tryz.prog 91 #[.slice x.r4 x.cs.length x.c4, .slice y.r4 y.cs.length y.c4, .func (.func 92) #[] #[]] X (Did (.bool b4) X))
 (H5 : ∀ X, Below w.heap.size w X → Calls Tryz.prog 93 #[.slice x.r5 x.st.length x.c5, .slice y.r5 y.st.length y.c5, .func (.func 94) #[] #[]] X (Did (.bool b5) X))
 (H6 : ∀ X, Below w.heap.size w X → Calls Tryz.prog 95 #[.slice x.r6 x.rl.length x.c6, .slice y.r6 y.rl.length y.c6, .func (.func 96) #[] #[]] X (Did (.bool b6) X))
 : Calls Tryz.prog 19 #[pbv x, pbv y] w (Did (.bool (decide (x.n = y.n) && (grE x.g y.g && (wgE x.w0 x.w1 x.w2 x.w3 y.w0 y.w1 y.w2 y.w3 && (b0 && (b1 && (b2 && (b3 && (b4 && (b5 && b6)))))))))) w) := by
 have H0 := hid H0
 have H1 := hid H1
 have H2 := hid H2
 have H3 := hid H3
 have H4 := hid H4
 have H5 := hid H5
 have H6 := hid H6
 have Hgr := gr_eql x.g y.g
 have Hwg := wg_eql x.w0 x.w1 x.w2 x.w3 y.w0 y.w1 y.w2 y.w3
 obtain ⟨G, W, hG, hW, K, hb0⟩ := (Mem.nil w).one (pbc x) 34
 obtain ⟨F, V, hF, hV, K0, hb1⟩ := K.out.one (pbc y) 34
 have Hcell := hid (fun X (h : Mem w X [(F, pbc y, 34), (G, pbc x, 34)]) => And.intro (h.pb (B := G) (x := x) (t := 34) (by simp)) (h.pb (B := F) (x := y) (t := 34) (by simp)))
 have q0 : ((bs x.n).toList == (bs y.n).toList) = decide (x.n = y.n) := by rw [list_of, list_of, bs_data, bs_data]; by_cases h : x.n = y.n <;> simp [h]
 generalize hn : decide (x.n = y.n) = n0 at *
 generalize grE x.g y.g = n1 at *
 generalize wgE x.w0 x.w1 x.w2 x.w3 y.w0 y.w1 y.w2 y.w3 = n2 at *
 clear hb0 hb1 K hn
 cases n0 with
 | false =>
  obtain ⟨⟨p0, p1, p2, p3, p4, p5, p6, p7, p8, p9, p10, p11, p12, p13, p14⟩, s0, s1, s2, s3, s4, s5, s6, s7, s8, s9, s10, s11, s12, s13, s14⟩ := Hcell.out _ K0.out
  go_enter Tryz.func19, Tryz.ntmps19
  go_wp2_with (first | (refine wpList_tail true 73 4 _ _ 10 _ (by rfl) rfl rfl ?_) | (refine wpList_tail true 73 4 _ _ 17 _ (by rfl) rfl rfl ?_) | (refine wpList_tail true 73 4 _ _ 24 _ (by rfl) rfl rfl ?_) | (refine wpList_tail true 73 4 _ _ 31 _ (by rfl) rfl rfl ?_) | (refine wpList_tail true 73 4 _ _ 38 _ (by rfl) rfl rfl ?_) | (refine wpList_tail true 73 4 _ _ 45 _ (by rfl) rfl rfl ?_) | (refine wpList_tail true 73 4 _ _ 52 _ (by rfl) rfl rfl ?_) | (refine wpList_tail true 73 4 _ _ 59 _ (by rfl) rfl rfl ?_) | (refine wpList_tail true 73 4 _ _ 66 _ (by rfl) rfl rfl ?_))
  rintro ⟨t1, d1⟩ ha1 ha2 ha3 _
  obtain rfl : d1 = [] := ha2
  go_wp2_with fail
  go_ret
  exact Did.mk (by rw [Array.getD_eq_getD_getElem?, show t1[4]? = _ from ha3]; rfl) K0.out.2
 | true =>
  cases n1 with
  | false =>
   obtain ⟨⟨p0, p1, p2, p3, p4, p5, p6, p7, p8, p9, p10, p11, p12, p13, p14⟩, s0, s1, s2, s3, s4, s5, s6, s7, s8, s9, s10, s11, s12, s13, s14⟩ := Hcell.out _ K0.out
   go_enter Tryz.func19, Tryz.ntmps19
   go_wp2_with (first | (refine wpList_tail true 73 4 _ _ 17 _ (by rfl) rfl rfl ?_) | (refine wpList_tail true 73 4 _ _ 24 _ (by rfl) rfl rfl ?_) | (refine wpList_tail true 73 4 _ _ 31 _ (by rfl) rfl rfl ?_) | (refine wpList_tail true 73 4 _ _ 38 _ (by rfl) rfl rfl ?_) | (refine wpList_tail true 73 4 _ _ 45 _ (by rfl) rfl rfl ?_) | (refine wpList_tail true 73 4 _ _ 52 _ (by rfl) rfl rfl ?_) | (refine wpList_tail true 73 4 _ _ 59 _ (by rfl) rfl rfl ?_) | (refine wpList_tail true 73 4 _ _ 66 _ (by rfl) rfl rfl ?_))
   rintro ⟨t1, d1⟩ ha1 ha2 ha3 _
   obtain rfl : d1 = [] := ha2
   go_wp2_with fail
   go_ret
   exact Did.mk (by rw [Array.getD_eq_getD_getElem?, show t1[4]? = _ from ha3]; rfl) K0.out.2
  | true =>
   cases n2 with
   | false =>
    obtain ⟨⟨p0, p1, p2, p3, p4, p5, p6, p7, p8, p9, p10, p11, p12, p13, p14⟩, s0, s1, s2, s3, s4, s5, s6, s7, s8, s9, s10, s11, s12, s13, s14⟩ := Hcell.out _ K0.out
    go_enter Tryz.func19, Tryz.ntmps19
    go_wp2_with (first | (refine wpList_tail true 73 4 _ _ 24 _ (by rfl) rfl rfl ?_) | (refine wpList_tail true 73 4 _ _ 31 _ (by rfl) rfl rfl ?_) | (refine wpList_tail true 73 4 _ _ 38 _ (by rfl) rfl rfl ?_) | (refine wpList_tail true 73 4 _ _ 45 _ (by rfl) rfl rfl ?_) | (refine wpList_tail true 73 4 _ _ 52 _ (by rfl) rfl rfl ?_) | (refine wpList_tail true 73 4 _ _ 59 _ (by rfl) rfl rfl ?_) | (refine wpList_tail true 73 4 _ _ 66 _ (by rfl) rfl rfl ?_))
    rintro ⟨t1, d1⟩ ha1 ha2 ha3 _
    obtain rfl : d1 = [] := ha2
    go_wp2_with fail
    go_ret
    exact Did.mk (by rw [Array.getD_eq_getD_getElem?, show t1[4]? = _ from ha3]; rfl) K0.out.2
   | true =>
    cases b0 with
    | false =>
     obtain ⟨⟨p0, p1, p2, p3, p4, p5, p6, p7, p8, p9, p10, p11, p12, p13, p14⟩, s0, s1, s2, s3, s4, s5, s6, s7, s8, s9, s10, s11, s12, s13, s14⟩ := Hcell.out _ K0.out
     go_enter Tryz.func19, Tryz.ntmps19
     go_wp2_with fail
     refine (H0.out _ K0.out.2).mono ?_
     rintro e Y0 ⟨rfl, bz⟩
     have K1 := hid (K0.out.next bz)
     clear p0 p1 p2 p3 p4 p5 p6 p7 p8 p9 p10 p11 p12 p13 p14 s0 s1 s2 s3 s4 s5 s6 s7 s8 s9 s10 s11 s12 s13 s14 bz
     obtain ⟨⟨p0, p1, p2, p3, p4, p5, p6, p7, p8, p9, p10, p11, p12, p13, p14⟩, s0, s1, s2, s3, s4, s5, s6, s7, s8, s9, s10, s11, s12, s13, s14⟩ := Hcell.out _ K1.out
     go_wp2_with (first | (refine wpList_tail true 73 4 _ _ 31 _ (by rfl) rfl rfl ?_) | (refine wpList_tail true 73 4 _ _ 38 _ (by rfl) rfl rfl ?_) | (refine wpList_tail true 73 4 _ _ 45 _ (by rfl) rfl rfl ?_) | (refine wpList_tail true 73 4 _ _ 52 _ (by rfl) rfl rfl ?_) | (refine wpList_tail true 73 4 _ _ 59 _ (by rfl) rfl rfl ?_) | (refine wpList_tail true 73 4 _ _ 66 _ (by rfl) rfl rfl ?_))
     rintro ⟨t1, d1⟩ ha1 ha2 ha3 _
     obtain rfl : d1 = [] := ha2
     go_wp2_with fail
     go_ret
     exact Did.mk (by rw [Array.getD_eq_getD_getElem?, show t1[4]? = _ from ha3]; rfl) K1.out.2
    | true =>
     cases b1 with
     | false =>
      obtain ⟨⟨p0, p1, p2, p3, p4, p5, p6, p7, p8, p9, p10, p11, p12, p13, p14⟩, s0, s1, s2, s3, s4, s5, s6, s7, s8, s9, s10, s11, s12, s13, s14⟩ := Hcell.out _ K0.out
      go_enter Tryz.func19, Tryz.ntmps19
      go_wp2_with fail
      refine (H0.out _ K0.out.2).mono ?_
      rintro e Y0 ⟨rfl, bz⟩
      have K1 := hid (K0.out.next bz)
      clear p0 p1 p2 p3 p4 p5 p6 p7 p8 p9 p10 p11 p12 p13 p14 s0 s1 s2 s3 s4 s5 s6 s7 s8 s9 s10 s11 s12 s13 s14 bz
      obtain ⟨⟨p0, p1, p2, p3, p4, p5, p6, p7, p8, p9, p10, p11, p12, p13, p14⟩, s0, s1, s2, s3, s4, s5, s6, s7, s8, s9, s10, s11, s12, s13, s14⟩ := Hcell.out _ K1.out
      go_wp2_with fail
      refine (H1.out _ K1.out.2).mono ?_
      rintro e Y1 ⟨rfl, bz⟩
      have K2 := hid (K1.out.next bz)
      clear p0 p1 p2 p3 p4 p5 p6 p7 p8 p9 p10 p11 p12 p13 p14 s0 s1 s2 s3 s4 s5 s6 s7 s8 s9 s10 s11 s12 s13 s14 bz
      obtain ⟨⟨p0, p1, p2, p3, p4, p5, p6, p7, p8, p9, p10, p11, p12, p13, p14⟩, s0, s1, s2, s3, s4, s5, s6, s7, s8, s9, s10, s11, s12, s13, s14⟩ := Hcell.out _ K2.out
      go_wp2_with (first | (refine wpList_tail true 73 4 _ _ 38 _ (by rfl) rfl rfl ?_) | (refine wpList_tail true 73 4 _ _ 45 _ (by rfl) rfl rfl ?_) | (refine wpList_tail true 73 4 _ _ 52 _ (by rfl) rfl rfl ?_) | (refine wpList_tail true 73 4 _ _ 59 _ (by rfl) rfl rfl ?_) | (refine wpList_tail true 73 4 _ _ 66 _ (by rfl) rfl rfl ?_))
      rintro ⟨t1, d1⟩ ha1 ha2 ha3 _
      obtain rfl : d1 = [] := ha2
      go_wp2_with fail
      go_ret
      exact Did.mk (by rw [Array.getD_eq_getD_getElem?, show t1[4]? = _ from ha3]; rfl) K2.out.2
     | true =>
      cases b2 with
      | false =>
       obtain ⟨⟨p0, p1, p2, p3, p4, p5, p6, p7, p8, p9, p10, p11, p12, p13, p14⟩, s0, s1, s2, s3, s4, s5, s6, s7, s8, s9, s10, s11, s12, s13, s14⟩ := Hcell.out _ K0.out
       go_enter Tryz.func19, Tryz.ntmps19
       go_wp2_with fail
       refine (H0.out _ K0.out.2).mono ?_
       rintro e Y0 ⟨rfl, bz⟩
       have K1 := hid (K0.out.next bz)
       clear p0 p1 p2 p3 p4 p5 p6 p7 p8 p9 p10 p11 p12 p13 p14 s0 s1 s2 s3 s4 s5 s6 s7 s8 s9 s10 s11 s12 s13 s14 bz
       obtain ⟨⟨p0, p1, p2, p3, p4, p5, p6, p7, p8, p9, p10, p11, p12, p13, p14⟩, s0, s1, s2, s3, s4, s5, s6, s7, s8, s9, s10, s11, s12, s13, s14⟩ := Hcell.out _ K1.out
       go_wp2_with fail
       refine (H1.out _ K1.out.2).mono ?_
       rintro e Y1 ⟨rfl, bz⟩
       have K2 := hid (K1.out.next bz)
       clear p0 p1 p2 p3 p4 p5 p6 p7 p8 p9 p10 p11 p12 p13 p14 s0 s1 s2 s3 s4 s5 s6 s7 s8 s9 s10 s11 s12 s13 s14 bz
       obtain ⟨⟨p0, p1, p2, p3, p4, p5, p6, p7, p8, p9, p10, p11, p12, p13, p14⟩, s0, s1, s2, s3, s4, s5, s6, s7, s8, s9, s10, s11, s12, s13, s14⟩ := Hcell.out _ K2.out
       go_wp2_with fail
       refine (H2.out _ K2.out.2).mono ?_
       rintro e Y2 ⟨rfl, bz⟩
       have K3 := hid (K2.out.next bz)
       clear p0 p1 p2 p3 p4 p5 p6 p7 p8 p9 p10 p11 p12 p13 p14 s0 s1 s2 s3 s4 s5 s6 s7 s8 s9 s10 s11 s12 s13 s14 bz
       obtain ⟨⟨p0, p1, p2, p3, p4, p5, p6, p7, p8, p9, p10, p11, p12, p13, p14⟩, s0, s1, s2, s3, s4, s5, s6, s7, s8, s9, s10, s11, s12, s13, s14⟩ := Hcell.out _ K3.out
       go_wp2_with (first | (refine wpList_tail true 73 4 _ _ 45 _ (by rfl) rfl rfl ?_) | (refine wpList_tail true 73 4 _ _ 52 _ (by rfl) rfl rfl ?_) | (refine wpList_tail true 73 4 _ _ 59 _ (by rfl) rfl rfl ?_) | (refine wpList_tail true 73 4 _ _ 66 _ (by rfl) rfl rfl ?_))
       rintro ⟨t1, d1⟩ ha1 ha2 ha3 _
       obtain rfl : d1 = [] := ha2
       go_wp2_with fail
       go_ret
       exact Did.mk (by rw [Array.getD_eq_getD_getElem?, show t1[4]? = _ from ha3]; rfl) K3.out.2
      | true =>
       cases b3 with
       | false =>
        obtain ⟨⟨p0, p1, p2, p3, p4, p5, p6, p7, p8, p9, p10, p11, p12, p13, p14⟩, s0, s1, s2, s3, s4, s5, s6, s7, s8, s9, s10, s11, s12, s13, s14⟩ := Hcell.out _ K0.out
        go_enter Tryz.func19, Tryz.ntmps19
        go_wp2_with fail
        refine (H0.out _ K0.out.2).mono ?_
        rintro e Y0 ⟨rfl, bz⟩
        have K1 := hid (K0.out.next bz)
        clear p0 p1 p2 p3 p4 p5 p6 p7 p8 p9 p10 p11 p12 p13 p14 s0 s1 s2 s3 s4 s5 s6 s7 s8 s9 s10 s11 s12 s13 s14 bz
        obtain ⟨⟨p0, p1, p2, p3, p4, p5, p6, p7, p8, p9, p10, p11, p12, p13, p14⟩, s0, s1, s2, s3, s4, s5, s6, s7, s8, s9, s10, s11, s12, s13, s14⟩ := Hcell.out _ K1.out
        go_wp2_with fail
        refine (H1.out _ K1.out.2).mono ?_
        rintro e Y1 ⟨rfl, bz⟩
        have K2 := hid (K1.out.next bz)
        clear p0 p1 p2 p3 p4 p5 p6 p7 p8 p9 p10 p11 p12 p13 p14 s0 s1 s2 s3 s4 s5 s6 s7 s8 s9 s10 s11 s12 s13 s14 bz
        obtain ⟨⟨p0, p1, p2, p3, p4, p5, p6, p7, p8, p9, p10, p11, p12, p13, p14⟩, s0, s1, s2, s3, s4, s5, s6, s7, s8, s9, s10, s11, s12, s13, s14⟩ := Hcell.out _ K2.out
        go_wp2_with fail
        refine (H2.out _ K2.out.2).mono ?_
        rintro e Y2 ⟨rfl, bz⟩
        have K3 := hid (K2.out.next bz)
        clear p0 p1 p2 p3 p4 p5 p6 p7 p8 p9 p10 p11 p12 p13 p14 s0 s1 s2 s3 s4 s5 s6 s7 s8 s9 s10 s11 s12 s13 s14 bz
        obtain ⟨⟨p0, p1, p2, p3, p4, p5, p6, p7, p8, p9, p10, p11, p12, p13, p14⟩, s0, s1, s2, s3, s4, s5, s6, s7, s8, s9, s10, s11, s12, s13, s14⟩ := Hcell.out _ K3.out
        go_wp2_with fail
        refine (H3.out _ K3.out.2).mono ?_
        rintro e Y3 ⟨rfl, bz⟩
        have K4 := hid (K3.out.next bz)
        clear p0 p1 p2 p3 p4 p5 p6 p7 p8 p9 p10 p11 p12 p13 p14 s0 s1 s2 s3 s4 s5 s6 s7 s8 s9 s10 s11 s12 s13 s14 bz
        obtain ⟨⟨p0, p1, p2, p3, p4, p5, p6, p7, p8, p9, p10, p11, p12, p13, p14⟩, s0, s1, s2, s3, s4, s5, s6, s7, s8, s9, s10, s11, s12, s13, s14⟩ := Hcell.out _ K4.out
        go_wp2_with (first | (refine wpList_tail true 73 4 _ _ 52 _ (by rfl) rfl rfl ?_) | (refine wpList_tail true 73 4 _ _ 59 _ (by rfl) rfl rfl ?_) | (refine wpList_tail true 73 4 _ _ 66 _ (by rfl) rfl rfl ?_))
        rintro ⟨t1, d1⟩ ha1 ha2 ha3 _
        obtain rfl : d1 = [] := ha2
        go_wp2_with fail
        go_ret
        exact Did.mk (by rw [Array.getD_eq_getD_getElem?, show t1[4]? = _ from ha3]; rfl) K4.out.2
       | true =>
        cases b4 with
        | false =>
         obtain ⟨⟨p0, p1, p2, p3, p4, p5, p6, p7, p8, p9, p10, p11, p12, p13, p14⟩, s0, s1, s2, s3, s4, s5, s6, s7, s8, s9, s10, s11, s12, s13, s14⟩ := Hcell.out _ K0.out
         go_enter Tryz.func19, Tryz.ntmps19
         go_wp2_with fail
         refine (H0.out _ K0.out.2).mono ?_
         rintro e Y0 ⟨rfl, bz⟩
         have K1 := hid (K0.out.next bz)
         clear p0 p1 p2 p3 p4 p5 p6 p7 p8 p9 p10 p11 p12 p13 p14 s0 s1 s2 s3 s4 s5 s6 s7 s8 s9 s10 s11 s12 s13 s14 bz
         obtain ⟨⟨p0, p1, p2, p3, p4, p5, p6, p7, p8, p9, p10, p11, p12, p13, p14⟩, s0, s1, s2, s3, s4, s5, s6, s7, s8, s9, s10, s11, s12, s13, s14⟩ := Hcell.out _ K1.out
         go_wp2_with fail
         refine (H1.out _ K1.out.2).mono ?_
         rintro e Y1 ⟨rfl, bz⟩
         have K2 := hid (K1.out.next bz)
         clear p0 p1 p2 p3 p4 p5 p6 p7 p8 p9 p10 p11 p12 p13 p14 s0 s1 s2 s3 s4 s5 s6 s7 s8 s9 s10 s11 s12 s13 s14 bz
         obtain ⟨⟨p0, p1, p2, p3, p4, p5, p6, p7, p8, p9, p10, p11, p12, p13, p14⟩, s0, s1, s2, s3, s4, s5, s6, s7, s8, s9, s10, s11, s12, s13, s14⟩ := Hcell.out _ K2.out
         go_wp2_with fail
         refine (H2.out _ K2.out.2).mono ?_
         rintro e Y2 ⟨rfl, bz⟩
         have K3 := hid (K2.out.next bz)
         clear p0 p1 p2 p3 p4 p5 p6 p7 p8 p9 p10 p11 p12 p13 p14 s0 s1 s2 s3 s4 s5 s6 s7 s8 s9 s10 s11 s12 s13 s14 bz
         obtain ⟨⟨p0, p1, p2, p3, p4, p5, p6, p7, p8, p9, p10, p11, p12, p13, p14⟩, s0, s1, s2, s3, s4, s5, s6, s7, s8, s9, s10, s11, s12, s13, s14⟩ := Hcell.out _ K3.out
         go_wp2_with fail
         refine (H3.out _ K3.out.2).mono ?_
         rintro e Y3 ⟨rfl, bz⟩
         have K4 := hid (K3.out.next bz)
         clear p0 p1 p2 p3 p4 p5 p6 p7 p8 p9 p10 p11 p12 p13 p14 s0 s1 s2 s3 s4 s5 s6 s7 s8 s9 s10 s11 s12 s13 s14 bz
         obtain ⟨⟨p0, p1, p2, p3, p4, p5, p6, p7, p8, p9, p10, p11, p12, p13, p14⟩, s0, s1, s2, s3, s4, s5, s6, s7, s8, s9, s10, s11, s12, s13, s14⟩ := Hcell.out _ K4.out
         go_wp2_with fail
         refine (H4.out _ K4.out.2).mono ?_
         rintro e Y4 ⟨rfl, bz⟩
         have K5 := hid (K4.out.next bz)
         clear p0 p1 p2 p3 p4 p5 p6 p7 p8 p9 p10 p11 p12 p13 p14 s0 s1 s2 s3 s4 s5 s6 s7 s8 s9 s10 s11 s12 s13 s14 bz
         obtain ⟨⟨p0, p1, p2, p3, p4, p5, p6, p7, p8, p9, p10, p11, p12, p13, p14⟩, s0, s1, s2, s3, s4, s5, s6, s7, s8, s9, s10, s11, s12, s13, s14⟩ := Hcell.out _ K5.out
         go_wp2_with (first | (refine wpList_tail true 73 4 _ _ 59 _ (by rfl) rfl rfl ?_) | (refine wpList_tail true 73 4 _ _ 66 _ (by rfl) rfl rfl ?_))
         rintro ⟨t1, d1⟩ ha1 ha2 ha3 _
         obtain rfl : d1 = [] := ha2
         go_wp2_with fail
         go_ret
         exact Did.mk (by rw [Array.getD_eq_getD_getElem?, show t1[4]? = _ from ha3]; rfl) K5.out.2
        | true =>
         cases b5 with
         | false =>
          obtain ⟨⟨p0, p1, p2, p3, p4, p5, p6, p7, p8, p9, p10, p11, p12, p13, p14⟩, s0, s1, s2, s3, s4, s5, s6, s7, s8, s9, s10, s11, s12, s13, s14⟩ := Hcell.out _ K0.out
          go_enter Tryz.func19, Tryz.ntmps19
          go_wp2_with fail
          refine (H0.out _ K0.out.2).mono ?_
          rintro e Y0 ⟨rfl, bz⟩
          have K1 := hid (K0.out.next bz)
          clear p0 p1 p2 p3 p4 p5 p6 p7 p8 p9 p10 p11 p12 p13 p14 s0 s1 s2 s3 s4 s5 s6 s7 s8 s9 s10 s11 s12 s13 s14 bz
          obtain ⟨⟨p0, p1, p2, p3, p4, p5, p6, p7, p8, p9, p10, p11, p12, p13, p14⟩, s0, s1, s2, s3, s4, s5, s6, s7, s8, s9, s10, s11, s12, s13, s14⟩ := Hcell.out _ K1.out
          go_wp2_with fail
          refine (H1.out _ K1.out.2).mono ?_
          rintro e Y1 ⟨rfl, bz⟩
          have K2 := hid (K1.out.next bz)
          clear p0 p1 p2 p3 p4 p5 p6 p7 p8 p9 p10 p11 p12 p13 p14 s0 s1 s2 s3 s4 s5 s6 s7 s8 s9 s10 s11 s12 s13 s14 bz
          obtain ⟨⟨p0, p1, p2, p3, p4, p5, p6, p7, p8, p9, p10, p11, p12, p13, p14⟩, s0, s1, s2, s3, s4, s5, s6, s7, s8, s9, s10, s11, s12, s13, s14⟩ := Hcell.out _ K2.out
          go_wp2_with fail
          refine (H2.out _ K2.out.2).mono ?_
          rintro e Y2 ⟨rfl, bz⟩
          have K3 := hid (K2.out.next bz)
          clear p0 p1 p2 p3 p4 p5 p6 p7 p8 p9 p10 p11 p12 p13 p14 s0 s1 s2 s3 s4 s5 s6 s7 s8 s9 s10 s11 s12 s13 s14 bz
          obtain ⟨⟨p0, p1, p2, p3, p4, p5, p6, p7, p8, p9, p10, p11, p12, p13, p14⟩, s0, s1, s2, s3, s4, s5, s6, s7, s8, s9, s10, s11, s12, s13, s14⟩ := Hcell.out _ K3.out
          go_wp2_with fail
          refine (H3.out _ K3.out.2).mono ?_
          rintro e Y3 ⟨rfl, bz⟩
          have K4 := hid (K3.out.next bz)
          clear p0 p1 p2 p3 p4 p5 p6 p7 p8 p9 p10 p11 p12 p13 p14 s0 s1 s2 s3 s4 s5 s6 s7 s8 s9 s10 s11 s12 s13 s14 bz
          obtain ⟨⟨p0, p1, p2, p3, p4, p5, p6, p7, p8, p9, p10, p11, p12, p13, p14⟩, s0, s1, s2, s3, s4, s5, s6, s7, s8, s9, s10, s11, s12, s13, s14⟩ := Hcell.out _ K4.out
          go_wp2_with fail
          refine (H4.out _ K4.out.2).mono ?_
          rintro e Y4 ⟨rfl, bz⟩
          have K5 := hid (K4.out.next bz)
          clear p0 p1 p2 p3 p4 p5 p6 p7 p8 p9 p10 p11 p12 p13 p14 s0 s1 s2 s3 s4 s5 s6 s7 s8 s9 s10 s11 s12 s13 s14 bz
          obtain ⟨⟨p0, p1, p2, p3, p4, p5, p6, p7, p8, p9, p10, p11, p12, p13, p14⟩, s0, s1, s2, s3, s4, s5, s6, s7, s8, s9, s10, s11, s12, s13, s14⟩ := Hcell.out _ K5.out
          go_wp2_with fail
          refine (H5.out _ K5.out.2).mono ?_
          rintro e Y5 ⟨rfl, bz⟩
          have K6 := hid (K5.out.next bz)
          clear p0 p1 p2 p3 p4 p5 p6 p7 p8 p9 p10 p11 p12 p13 p14 s0 s1 s2 s3 s4 s5 s6 s7 s8 s9 s10 s11 s12 s13 s14 bz
          obtain ⟨⟨p0, p1, p2, p3, p4, p5, p6, p7, p8, p9, p10, p11, p12, p13, p14⟩, s0, s1, s2, s3, s4, s5, s6, s7, s8, s9, s10, s11, s12, s13, s14⟩ := Hcell.out _ K6.out
          go_wp2_with (first | (refine wpList_tail true 73 4 _ _ 66 _ (by rfl) rfl rfl ?_))
          rintro ⟨t1, d1⟩ ha1 ha2 ha3 _
          obtain rfl : d1 = [] := ha2
          go_wp2_with fail
          go_ret
          exact Did.mk (by rw [Array.getD_eq_getD_getElem?, show t1[4]? = _ from ha3]; rfl) K6.out.2
         | true =>
          cases b6 with
          | false =>
           obtain ⟨⟨p0, p1, p2, p3, p4, p5, p6, p7, p8, p9, p10, p11, p12, p13, p14⟩, s0, s1, s2, s3, s4, s5, s6, s7, s8, s9, s10, s11, s12, s13, s14⟩ := Hcell.out _ K0.out
           go_enter Tryz.func19, Tryz.ntmps19
           go_wp2_with fail
           refine (H0.out _ K0.out.2).mono ?_
           rintro e Y0 ⟨rfl, bz⟩
           have K1 := hid (K0.out.next bz)
           clear p0 p1 p2 p3 p4 p5 p6 p7 p8 p9 p10 p11 p12 p13 p14 s0 s1 s2 s3 s4 s5 s6 s7 s8 s9 s10 s11 s12 s13 s14 bz
           obtain ⟨⟨p0, p1, p2, p3, p4, p5, p6, p7, p8, p9, p10, p11, p12, p13, p14⟩, s0, s1, s2, s3, s4, s5, s6, s7, s8, s9, s10, s11, s12, s13, s14⟩ := Hcell.out _ K1.out
           go_wp2_with fail
           refine (H1.out _ K1.out.2).mono ?_
           rintro e Y1 ⟨rfl, bz⟩
           have K2 := hid (K1.out.next bz)
           clear p0 p1 p2 p3 p4 p5 p6 p7 p8 p9 p10 p11 p12 p13 p14 s0 s1 s2 s3 s4 s5 s6 s7 s8 s9 s10 s11 s12 s13 s14 bz
           obtain ⟨⟨p0, p1, p2, p3, p4, p5, p6, p7, p8, p9, p10, p11, p12, p13, p14⟩, s0, s1, s2, s3, s4, s5, s6, s7, s8, s9, s10, s11, s12, s13, s14⟩ := Hcell.out _ K2.out
           go_wp2_with fail
           refine (H2.out _ K2.out.2).mono ?_
           rintro e Y2 ⟨rfl, bz⟩
           have K3 := hid (K2.out.next bz)
           clear p0 p1 p2 p3 p4 p5 p6 p7 p8 p9 p10 p11 p12 p13 p14 s0 s1 s2 s3 s4 s5 s6 s7 s8 s9 s10 s11 s12 s13 s14 bz
           obtain ⟨⟨p0, p1, p2, p3, p4, p5, p6, p7, p8, p9, p10, p11, p12, p13, p14⟩, s0, s1, s2, s3, s4, s5, s6, s7, s8, s9, s10, s11, s12, s13, s14⟩ := Hcell.out _ K3.out
           go_wp2_with fail
           refine (H3.out _ K3.out.2).mono ?_
           rintro e Y3 ⟨rfl, bz⟩
           have K4 := hid (K3.out.next bz)
           clear p0 p1 p2 p3 p4 p5 p6 p7 p8 p9 p10 p11 p12 p13 p14 s0 s1 s2 s3 s4 s5 s6 s7 s8 s9 s10 s11 s12 s13 s14 bz
           obtain ⟨⟨p0, p1, p2, p3, p4, p5, p6, p7, p8, p9, p10, p11, p12, p13, p14⟩, s0, s1, s2, s3, s4, s5, s6, s7, s8, s9, s10, s11, s12, s13, s14⟩ := Hcell.out _ K4.out
           go_wp2_with fail
           refine (H4.out _ K4.out.2).mono ?_
           rintro e Y4 ⟨rfl, bz⟩
           have K5 := hid (K4.out.next bz)
           clear p0 p1 p2 p3 p4 p5 p6 p7 p8 p9 p10 p11 p12 p13 p14 s0 s1 s2 s3 s4 s5 s6 s7 s8 s9 s10 s11 s12 s13 s14 bz
           obtain ⟨⟨p0, p1, p2, p3, p4, p5, p6, p7, p8, p9, p10, p11, p12, p13, p14⟩, s0, s1, s2, s3, s4, s5, s6, s7, s8, s9, s10, s11, s12, s13, s14⟩ := Hcell.out _ K5.out
           go_wp2_with fail
           refine (H5.out _ K5.out.2).mono ?_
           rintro e Y5 ⟨rfl, bz⟩
           have K6 := hid (K5.out.next bz)
           clear p0 p1 p2 p3 p4 p5 p6 p7 p8 p9 p10 p11 p12 p13 p14 s0 s1 s2 s3 s4 s5 s6 s7 s8 s9 s10 s11 s12 s13 s14 bz
           obtain ⟨⟨p0, p1, p2, p3, p4, p5, p6, p7, p8, p9, p10, p11, p12, p13, p14⟩, s0, s1, s2, s3, s4, s5, s6, s7, s8, s9, s10, s11, s12, s13, s14⟩ := Hcell.out _ K6.out
           go_wp2_with fail
           refine (H6.out _ K6.out.2).mono ?_
           rintro e Y6 ⟨rfl, bz⟩
           have K7 := hid (K6.out.next bz)
           clear p0 p1 p2 p3 p4 p5 p6 p7 p8 p9 p10 p11 p12 p13 p14 s0 s1 s2 s3 s4 s5 s6 s7 s8 s9 s10 s11 s12 s13 s14 bz
           obtain ⟨⟨p0, p1, p2, p3, p4, p5, p6, p7, p8, p9, p10, p11, p12, p13, p14⟩, s0, s1, s2, s3, s4, s5, s6, s7, s8, s9, s10, s11, s12, s13, s14⟩ := Hcell.out _ K7.out
           go_wp2_with fail
           go_ret
           exact Did.mk rfl K7.out.2
          | true =>
           obtain ⟨⟨p0, p1, p2, p3, p4, p5, p6, p7, p8, p9, p10, p11, p12, p13, p14⟩, s0, s1, s2, s3, s4, s5, s6, s7, s8, s9, s10, s11, s12, s13, s14⟩ := Hcell.out _ K0.out
           go_enter Tryz.func19, Tryz.ntmps19
           go_wp2_with fail
           refine (H0.out _ K0.out.2).mono ?_
           rintro e Y0 ⟨rfl, bz⟩
           have K1 := hid (K0.out.next bz)
           clear p0 p1 p2 p3 p4 p5 p6 p7 p8 p9 p10 p11 p12 p13 p14 s0 s1 s2 s3 s4 s5 s6 s7 s8 s9 s10 s11 s12 s13 s14 bz
           obtain ⟨⟨p0, p1, p2, p3, p4, p5, p6, p7, p8, p9, p10, p11, p12, p13, p14⟩, s0, s1, s2, s3, s4, s5, s6, s7, s8, s9, s10, s11, s12, s13, s14⟩ := Hcell.out _ K1.out
           go_wp2_with fail
           refine (H1.out _ K1.out.2).mono ?_
           rintro e Y1 ⟨rfl, bz⟩
           have K2 := hid (K1.out.next bz)
           clear p0 p1 p2 p3 p4 p5 p6 p7 p8 p9 p10 p11 p12 p13 p14 s0 s1 s2 s3 s4 s5 s6 s7 s8 s9 s10 s11 s12 s13 s14 bz
           obtain ⟨⟨p0, p1, p2, p3, p4, p5, p6, p7, p8, p9, p10, p11, p12, p13, p14⟩, s0, s1, s2, s3, s4, s5, s6, s7, s8, s9, s10, s11, s12, s13, s14⟩ := Hcell.out _ K2.out
           go_wp2_with fail
           refine (H2.out _ K2.out.2).mono ?_
           rintro e Y2 ⟨rfl, bz⟩
           have K3 := hid (K2.out.next bz)
           clear p0 p1 p2 p3 p4 p5 p6 p7 p8 p9 p10 p11 p12 p13 p14 s0 s1 s2 s3 s4 s5 s6 s7 s8 s9 s10 s11 s12 s13 s14 bz
           obtain ⟨⟨p0, p1, p2, p3, p4, p5, p6, p7, p8, p9, p10, p11, p12, p13, p14⟩, s0, s1, s2, s3, s4, s5, s6, s7, s8, s9, s10, s11, s12, s13, s14⟩ := Hcell.out _ K3.out
           go_wp2_with fail
           refine (H3.out _ K3.out.2).mono ?_
           rintro e Y3 ⟨rfl, bz⟩
           have K4 := hid (K3.out.next bz)
           clear p0 p1 p2 p3 p4 p5 p6 p7 p8 p9 p10 p11 p12 p13 p14 s0 s1 s2 s3 s4 s5 s6 s7 s8 s9 s10 s11 s12 s13 s14 bz
           obtain ⟨⟨p0, p1, p2, p3, p4, p5, p6, p7, p8, p9, p10, p11, p12, p13, p14⟩, s0, s1, s2, s3, s4, s5, s6, s7, s8, s9, s10, s11, s12, s13, s14⟩ := Hcell.out _ K4.out
           go_wp2_with fail
           refine (H4.out _ K4.out.2).mono ?_
           rintro e Y4 ⟨rfl, bz⟩
           have K5 := hid (K4.out.next bz)
           clear p0 p1 p2 p3 p4 p5 p6 p7 p8 p9 p10 p11 p12 p13 p14 s0 s1 s2 s3 s4 s5 s6 s7 s8 s9 s10 s11 s12 s13 s14 bz
           obtain ⟨⟨p0, p1, p2, p3, p4, p5, p6, p7, p8, p9, p10, p11, p12, p13, p14⟩, s0, s1, s2, s3, s4, s5, s6, s7, s8, s9, s10, s11, s12, s13, s14⟩ := Hcell.out _ K5.out
           go_wp2_with fail
           refine (H5.out _ K5.out.2).mono ?_
           rintro e Y5 ⟨rfl, bz⟩
           have K6 := hid (K5.out.next bz)
           clear p0 p1 p2 p3 p4 p5 p6 p7 p8 p9 p10 p11 p12 p13 p14 s0 s1 s2 s3 s4 s5 s6 s7 s8 s9 s10 s11 s12 s13 s14 bz
           obtain ⟨⟨p0, p1, p2, p3, p4, p5, p6, p7, p8, p9, p10, p11, p12, p13, p14⟩, s0, s1, s2, s3, s4, s5, s6, s7, s8, s9, s10, s11, s12, s13, s14⟩ := Hcell.out _ K6.out
           go_wp2_with fail
           refine (H6.out _ K6.out.2).mono ?_
           rintro e Y6 ⟨rfl, bz⟩
           have K7 := hid (K6.out.next bz)
           clear p0 p1 p2 p3 p4 p5 p6 p7 p8 p9 p10 p11 p12 p13 p14 s0 s1 s2 s3 s4 s5 s6 s7 s8 s9 s10 s11 s12 s13 s14 bz
           obtain ⟨⟨p0, p1, p2, p3, p4, p5, p6, p7, p8, p9, p10, p11, p12, p13, p14⟩, s0, s1, s2, s3, s4, s5, s6, s7, s8, s9, s10, s11, s12, s13, s14⟩ := Hcell.out _ K7.out
           go_wp2_with fail
           go_ret
           exact Did.mk rfl K7.out.2
end Go.Proofs.YtgmgccepmalahaaGreat
