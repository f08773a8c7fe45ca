/- What the proof of ProblemCopies stands on, part 24. -/
import Derived.Test.YtgmgccepmalahaaGreatCpAF
import Derived.Test.YtgmgccepmalahaaGreatCpAN
import Derived.Test.YtgmgccepmalahaaGreatCpAV
import Derived.Test.YtgmgccepmalahaaGreatCpAW
namespace Go.Proofs.YtgmgccepmalahaaGreat
open Go.RowKit
open Whn (Gr Wh)
theorem st_ext17 {x y : St} (h : x.n = y.n) : x.l = y.l ↔ x = y := by
 cases x
 cases y
 simp only at h
 subst h
 simp
set_option maxRecDepth 40000 in
set_option maxHeartbeats 32000000 in
theorem r17_Same_10 (x y_ : PbA) (w : World) (h1 : PbIn w x) (h2 : PbIn w y_) (e0 : x.n = y_.n) (e1 : x.g = y_.g) (e2 : (x.w0 = y_.w0 ∧ x.w1 = y_.w1 ∧ x.w2 = y_.w2 ∧ x.w3 = y_.w3)) (e3 : x.wk = y_.wk) (e4 : x.rm.length = y_.rm.length) (e5 : x.ps.length = y_.ps.length) (e6 : x.cl.length = y_.cl.length) (e7 : x.cs.length = y_.cs.length) (e8 : x.st.length = y_.st.length) (e9 : x.rl.length = y_.rl.length) : Calls Tryz.prog 20 #[pbv x, pbv y_] w (CtRet (x.p = y_.p) w) := by
 have HIx := hid h1
 have HIy := hid h2
 have HP := hid (pb_same17 x y_)
 have HE := hid (And.intro e0 (And.intro e1 (And.intro e2 e3)))
 have HCrm := hid (fun (y : RmA) (z : RmA) (hy : y ∈ x.rm) (hz : z ∈ y_.rm) X (hb : Below w.heap.size w X) => show Calls Tryz.prog 98 #[rv y.r y.a y.c, rv z.r z.a z.c] X (Did (.bool (rmEq y.r z.r)) X) from r_Same y.r z.r y.a z.a y.c z.c (by have := (HIx.out.rmI y hy).2.2; omega) X ((HIx.out.rmI y hy).next hb).2.1 ((HIy.out.rmI z hz).next hb).2.1)
 have HCps := hid (fun (y : PsA) (z : PsA) (hy : y ∈ x.ps) (hz : z ∈ y_.ps) X (hb : Below w.heap.size w X) => show Calls Tryz.prog 99 #[pv y.r y.a y.c, pv z.r z.a z.c] X (Did (.bool (psEq y.r z.r)) X) from r_SameP y.r z.r y.a z.a y.c z.c (by have := (HIx.out.psI y hy).2.2; omega) X ((HIx.out.psI y hy).next hb).2.1 ((HIy.out.psI z hz).next hb).2.1)
 have HCcl := hid (fun (y : ClA) (z : ClA) (hy : y ∈ x.cl) (hz : z ∈ y_.cl) X (hb : Below w.heap.size w X) => show Calls Tryz.prog 100 #[cv y.x y.r, cv z.x z.r] X (Did (.bool (clEq y.x z.x)) X) from r_SameC y.x z.x y.r z.r (HIx.out.clI y hy).2.2 X ((HIx.out.clI y hy).next hb).2.1 ((HIy.out.clI z hz).next hb).2.1)
 have HCcs := hid (fun (y : CsA) (z : CsA) (hy : y ∈ x.cs) (hz : z ∈ y_.cs) X (hb : Below w.heap.size w X) => show Calls Tryz.prog 101 #[csv y.x y.a y.c, csv z.x z.a z.c] X (Did (.bool (csEq y.x z.x)) X) from r_SameCs y.x z.x y.a z.a y.c z.c (HIx.out.csI y hy).2.2.2 X ((HIx.out.csI y hy).next hb).2.1 ((HIy.out.csI z hz).next hb).2.1)
 have HCst := hid (fun (y : StA) (z : StA) (hy : y ∈ x.st) (hz : z ∈ y_.st) X (hb : Below w.heap.size w X) => r_Ints y.a z.a y.x.l.length z.x.l.length y.c z.c y.x.l z.x.l rfl rfl X w.heap.size w.heap.size ((HIx.out.stI y hy).2.1.below hb (Nat.le_refl _)) ((HIy.out.stI z hz).2.1.below hb (Nat.le_refl _)) (by have := (HIx.out.stI y hy).2.2.1; omega))
 have HCrl := hid (fun (y : RlA) (z : RlA) (hy : y ∈ x.rl) (hz : z ∈ y_.rl) X (hb : Below w.heap.size w X) => show Calls Tryz.prog 102 #[rlv y.x y.r y.c, rlv z.x z.r z.c] X (Did (.bool (rlEq y.x z.x)) X) from r17_sameRule y.x z.x y.r z.r y.c z.c (by have := (HIx.out.rlI y hy).2.2; omega) X ((HIx.out.rlI y hy).next hb).2.1 ((HIy.out.rlI z hz).next hb).2.1)
 have q0 : ((bs x.n).toList == (bs y_.n).toList) = decide (x.n = y_.n) := by rw [list_of, list_of, bs_data, bs_data]; by_cases h : x.n = y_.n <;> simp [h]
 rw [decide_eq_true e0] at q0
 have Hgr := gr_neq17 x.g y_.g
 simp only [show grE x.g y_.g = true from (grE_iff _ _).2 e1, Bool.not_true] at Hgr
 have Hwg := wg_neq17 x.w0 x.w1 x.w2 x.w3 y_.w0 y_.w1 y_.w2 y_.w3
 simp only [show wgE x.w0 x.w1 x.w2 x.w3 y_.w0 y_.w1 y_.w2 y_.w3 = true from (wgE_iff _ _ _ _ _ _ _ _).2 e2, Bool.not_true] at Hwg
 have HRw := hid (fun X (hb : Below w.heap.size w X) => r_Rows14 x.r1 y_.r1 x.c1 y_.c1 x.wk y_.wk ⟨by have := h1.wkC; omega, h1.wkI⟩ X (Rows2.next h1.wk hb) (Rows2.next h2.wk hb))
 rw [decide_eq_true e3] at HRw
 have hl4 : (x.rm.length : Int) = (y_.rm.length : Int) := by omega
 have hl5 : (x.ps.length : Int) = (y_.ps.length : Int) := by omega
 have hl6 : (x.cl.length : Int) = (y_.cl.length : Int) := by omega
 have hl7 : (x.cs.length : Int) = (y_.cs.length : Int) := by omega
 have hl8 : (x.st.length : Int) = (y_.st.length : Int) := by omega
 have hl9 : (x.rl.length : Int) = (y_.rl.length : Int) := by omega
 obtain ⟨G, W, hG, hW, K0, hb0⟩ := (Mem.nil w).one (pbc x) 34
 obtain ⟨Q, V, hQ, hV, K, hb2⟩ := K0.out.one (pbc y_) 34
 have Hcell := hid (fun X (h : Mem w X [(Q, pbc y_, 34), (G, pbc x, 34)]) => And.intro (h.pb (B := G) (x := x) (t := 34) (by simp)) (h.pb (B := Q) (x := y_) (t := 34) (by simp)))
 obtain ⟨⟨p0, p1, p2, p3, p4, p5, p6, p7, p8, p9, p10, p11, p12, p13, p14⟩, s0, s1, s2, s3, s4, s5, s6, s7, s8, s9, s10, s11, s12, s13, s14⟩ := Hcell.out _ K.out
 have HL := hid (And.intro e4 (And.intro e5 (And.intro e6 (And.intro e7 (And.intro e8 e9)))))
 clear K0 hb0 hb2 h1 h2 e0 e1 e2 e3 e4 e5 e6 e7 e8 e9
 go_enter Tryz.func20, Tryz.ntmps20
 iterate 17 (first | go_values | go_skip | go_guarded | go_step | go_upon | go_back)
 simp only [List.append_eq, List.cons_append, List.nil_append]
 rename_i Kx a2
 have AH := hid a2
 clear a2
 go_wp2_with fail
 refine (HRw.out _ K.out.2).mono ?_
 rintro e Y ⟨rfl, bz⟩
 have K1 := hid (K.out.next bz)
 clear p0 p1 p2 p3 p4 p5 p6 p7 p8 p9 p10 p11 p12 p13 p14 s0 s1 s2 s3 s4 s5 s6 s7 s8 s9 s10 s11 s12 s13 s14 bz
 obtain ⟨⟨p0, p1, p2, p3, p4, p5, p6, p7, p8, p9, p10, p11, p12, p13, p14⟩, s0, s1, s2, s3, s4, s5, s6, s7, s8, s9, s10, s11, s12, s13, s14⟩ := Hcell.out _ K1.out
 clear hW hV K
 go_wp2_with fail
 clear hl4 hl5 hl6 hl7 hl8 hl9
 clear q0 Hgr Hwg HRw
 clear p0 p1 p2 p3 p4 p5 p6 p7 p8 p9 p10 p11 p12 p13 p14 s0 s1 s2 s3 s4 s5 s6 s7 s8 s9 s10 s11 s12 s13 s14
 refine AH.out _ _ ?_
 clear AH
 obtain ⟨⟨p0, p1, p2, p3, p4, p5, p6, p7, p8, p9, p10, p11, p12, p13, p14⟩, s0, s1, s2, s3, s4, s5, s6, s7, s8, s9, s10, s11, s12, s13, s14⟩ := Hcell.out _ K1.out
 go_wp2_with fail
 clear p0 p1 p2 p3 p4 p5 p6 p7 p8 p9 p10 p11 p12 p13 p14 s0 s1 s2 s3 s4 s5 s6 s7 s8 s9 s10 s11 s12 s13 s14
 rename_i Kx2 a2
 skip
 have AH := hid a2
 clear a2
 go_loopw [5, 6] (fun sv iv wr => ∃ (b : Bool) (i : Nat), sv = .bool b ∧ iv = .int .i64 ((i : Nat) : Int) ∧ i ≤ x.rm.length ∧ Hid (b = true ↔ (True ∧ (x.rm.take i).map (fun z => z.r) = (y_.rm.take i).map (fun z => z.r))) ∧ Hid (Mem w wr [(Q, pbc y_, 34), (G, pbc x, 34)])) (fun _ iv _ => x.rm.length - (intOf iv).toNat)
 case atStart => exact ⟨true, 0, rfl, rfl, Nat.zero_le _, hid (by simp), K1⟩
 case round =>
  clear K1
  obtain ⟨b, i, rfl, rfl, hi, HB, KM⟩ := hrel
  obtain ⟨⟨p0, p1, p2, p3, p4, p5, p6, p7, p8, p9, p10, p11, p12, p13, p14⟩, s0, s1, s2, s3, s4, s5, s6, s7, s8, s9, s10, s11, s12, s13, s14⟩ := Hcell.out _ KM.out
  by_cases hlt : i < x.rm.length
  · skip
    obtain ⟨ad, y, e0, hadb, hy, hyl, _⟩ := Es.get (K := 4) enR_len (by decide) (HIx.out.rm.below KM.out.2 (Nat.le_refl _)) hlt
    obtain ⟨ad2, z, e02, hadb2, hz, hzl, _⟩ := Es.get (K := 4) enR_len (by decide) (HIy.out.rm.below KM.out.2 (Nat.le_refl _)) (show i < y_.rm.length by have := HL.out; omega)
    have Hrow := hid (fun X (hb : Below w.heap.size w X) => (show X.cell? (ad.add (i * 4)) = some (txt y.r.n) ∧ X.cell? ⟨(ad.add (i * 4)).block, (ad.add (i * 4)).off + 1, none⟩ = some (.int .i64 y.r.s) ∧ X.cell? ⟨(ad.add (i * 4)).block, (ad.add (i * 4)).off + 2, none⟩ = some (.int .u16 (y.r.g : Int)) ∧ X.cell? ⟨(ad.add (i * 4)).block, (ad.add (i * 4)).off + 3, none⟩ = some (.slice y.a y.r.l.length y.c) from by
     have hq := HIx.out.rm.below hb (Nat.le_refl _)
     rw [e0] at hq
     exact ⟨es_at enR_len hq hy.out 0 _ rfl, es_fld enR_len hq hy.out 1 (by decide) _ rfl, es_fld enR_len hq hy.out 2 (by decide) _ rfl, es_fld enR_len hq hy.out 3 (by decide) _ rfl⟩))
    have Hrow2 := hid (fun X (hb : Below w.heap.size w X) => (show X.cell? (ad2.add (i * 4)) = some (txt z.r.n) ∧ X.cell? ⟨(ad2.add (i * 4)).block, (ad2.add (i * 4)).off + 1, none⟩ = some (.int .i64 z.r.s) ∧ X.cell? ⟨(ad2.add (i * 4)).block, (ad2.add (i * 4)).off + 2, none⟩ = some (.int .u16 (z.r.g : Int)) ∧ X.cell? ⟨(ad2.add (i * 4)).block, (ad2.add (i * 4)).off + 3, none⟩ = some (.slice z.a z.r.l.length z.c) from by
     have hq := HIy.out.rm.below hb (Nat.le_refl _)
     rw [e02] at hq
     exact ⟨es_at enR_len hq hz.out 0 _ rfl, es_fld enR_len hq hz.out 1 (by decide) _ rfl, es_fld enR_len hq hz.out 2 (by decide) _ rfl, es_fld enR_len hq hz.out 3 (by decide) _ rfl⟩))
    skip
    have i1 : (0 : Int) ≤ (i : Int) := by omega
    have i2 : (i : Int) < (x.rm.length : Int) := by omega
    have i3 : (i : Int) < (y_.rm.length : Int) := by have := HL.out; omega
    have i4 : (i : Int) + 1 ≤ 9223372036854775807 := by have := HIx.out.rmC; unfold maxLen at this; omega
    have Hst := hid (take_step17 (fun z : RmA => z.r) hy.out hz.out)
    have HCy := hid (HCrm.out y z hyl hzl)
    have Hq := hid (rmEq_iff y.r z.r)
    obtain ⟨q, hq⟩ : ∃ q, rmEq y.r z.r = q := ⟨_, rfl⟩
    rw [hq] at HCy Hq
    clear hq
    cases b with
    | false =>
     go_upto_region 7 with fail
     clear p0 p1 p2 p3 p4 p5 p6 p7 p8 p9 p10 p11 p12 p13 p14 s0 s1 s2 s3 s4 s5 s6 s7 s8 s9 s10 s11 s12 s13 s14
     refine wp_region_held_drew (S := fun X => Mem w X [(Q, pbc y_, 34), (G, pbc x, 34)]) (by kernel_rfl) KM.out.drew (fun hHeld => ?_)
     refine tkD 0 100 (.bool false) rfl rfl hHeld ?_
     simp only [pt, List.set]
     refine tkD 1 101 (.bool false) rfl rfl hHeld ?_
     simp only [pt, List.set]
     refine skD 2 102 rfl rfl hHeld ?_
     simp only [pt, List.set]
     refine skD 3 103 rfl rfl hHeld ?_
     simp only [pt, List.set]
     refine skD 4 104 rfl rfl hHeld ?_
     simp only [pt, List.set]
     refine skD 5 105 rfl rfl hHeld ?_
     simp only [pt, List.set]
     refine skD 6 106 rfl rfl hHeld ?_
     simp only [pt, List.set]
     refine skD 7 107 rfl rfl hHeld ?_
     simp only [pt, List.set]
     refine skD 8 108 rfl rfl hHeld ?_
     simp only [pt, List.set]
     refine skD 9 109 rfl rfl hHeld ?_
     simp only [pt, List.set]
     refine skD 10 110 rfl rfl hHeld ?_
     simp only [pt, List.set]
     refine skD 11 111 rfl rfl hHeld ?_
     simp only [pt, List.set]
     refine skD 12 112 rfl rfl hHeld ?_
     simp only [pt, List.set]
     refine tkD 13 113 (.bool false) rfl rfl hHeld ?_
     simp only [pt, List.set]
     refine tkD 14 5 (.bool false) rfl rfl hHeld ?_
     simp only [pt, List.set]
     refine wpAnyH_done (by kernel_rfl) ?_ _
     clear hHeld
     go_wp2_with fail
     exact ⟨⟨false, i + 1, rfl, by go_num, by omega, hid (by have := HB.out; have h2 := Hst.out; rw [h2]; simp only [Bool.false_eq_true, false_iff] at this ⊢; exact fun h => this ⟨h.1, h.2.1⟩), hid KM.out.drew⟩, by simp [intOf]; omega⟩
    | true =>
     go_upto_region 7 with fail
     clear p0 p1 p2 p3 p4 p5 p6 p7 p8 p9 p10 p11 p12 p13 p14 s0 s1 s2 s3 s4 s5 s6 s7 s8 s9 s10 s11 s12 s13 s14
     refine wp_region_held_drew (S := fun X => Mem w X [(Q, pbc y_, 34), (G, pbc x, 34)]) (by kernel_rfl) KM.out.drew (fun hHeld => ?_)
     refine tkD 0 100 (.bool true) rfl rfl hHeld ?_
     simp only [pt, List.set]
     refine tkD 1 101 (.bool true) rfl rfl hHeld ?_
     simp only [pt, List.set]
     refine tkD 2 102 (.pointer (some ⟨G, 4, none⟩)) rfl rfl hHeld ?_
     simp only [pt, List.set]
     refine tkH 3 103 (.slice (some ad) x.rm.length x.c0) rfl rfl (fun X hX => by obtain ⟨⟨p0, p1, p2, p3, p4, p5, p6, p7, p8, p9, p10, p11, p12, p13, p14⟩, s0, s1, s2, s3, s4, s5, s6, s7, s8, s9, s10, s11, s12, s13, s14⟩ := Hcell.out _ hX; rw [e0] at p4; clear hX; go_simp) hHeld ?_
     simp only [pt, List.set]
     refine tkD 4 104 (.int .i64 (i : Nat)) rfl rfl hHeld ?_
     simp only [pt, List.set]
     refine tkD 5 105 (.pointer (some (ad.add (i * 4)))) rfl rfl hHeld ?_
     simp only [pt, List.set]
     refine tkH 6 106 (.agg #[txt y.r.n, .int .i64 y.r.s, .int .u16 (y.r.g : Int), .slice y.a y.r.l.length y.c]) rfl rfl (fun X hX => by obtain ⟨u0, u1, u2, u3⟩ := Hrow.out X hX.2; clear hX; go_simp) hHeld ?_
     simp only [pt, List.set]
     refine tkD 7 107 (.pointer (some ⟨Q, 4, none⟩)) rfl rfl hHeld ?_
     simp only [pt, List.set]
     refine tkH 8 108 (.slice (some ad2) y_.rm.length y_.c0) rfl rfl (fun X hX => by obtain ⟨⟨p0, p1, p2, p3, p4, p5, p6, p7, p8, p9, p10, p11, p12, p13, p14⟩, s0, s1, s2, s3, s4, s5, s6, s7, s8, s9, s10, s11, s12, s13, s14⟩ := Hcell.out _ hX; rw [e02] at s4; clear hX; go_simp) hHeld ?_
     simp only [pt, List.set]
     refine tkD 9 109 (.int .i64 (i : Nat)) rfl rfl hHeld ?_
     simp only [pt, List.set]
     refine tkD 10 110 (.pointer (some (ad2.add (i * 4)))) rfl rfl hHeld ?_
     simp only [pt, List.set]
     refine tkH 11 111 (.agg #[txt z.r.n, .int .i64 z.r.s, .int .u16 (z.r.g : Int), .slice z.a z.r.l.length z.c]) rfl rfl (fun X hX => by obtain ⟨u0, u1, u2, u3⟩ := Hrow2.out X hX.2; clear hX; go_simp) hHeld ?_
     simp only [pt, List.set]
     clear e0 e02
     have K1 := hid KM.out.drew
     refine wpAnyH_ready (rs := [12]) (by kernel_rfl) (by simp) ?_
     refine AllReadyH.cons rfl (fun KK hK => ?_) AllReadyH.nil
     simp only [List.getElem_toArray, List.getElem_cons_succ, List.getElem_cons_zero]
     go_simp
     refine (HCy.out _ K1.out.2).mono ?_
     rintro e Y ⟨rfl, bz⟩
     have K4 := hid (K1.out.next bz)
     refine hK.out _ _ K4.out (fun hHeld => ?_)
     clear hK KK
     try simp only [pt, List.set]
     refine tkD 13 113 (.bool q) rfl rfl hHeld ?_
     simp only [pt, List.set]
     refine tkD 14 5 (.bool q) rfl rfl hHeld ?_
     simp only [pt, List.set]
     cases q with
     | false =>
      refine wpAnyH_done (by kernel_rfl) ?_ _
      clear hHeld
      go_wp2_with fail
      exact ⟨⟨false, i + 1, rfl, by go_num, by omega, hid (by have := HB.out; have h2 := Hst.out; rw [h2]; simp only [Bool.false_eq_true, false_iff]; exact fun h => absurd (Hq.out.2 h.2.2) (by decide)), K4⟩, by simp [intOf]; omega⟩
     | true =>
      refine wpAnyH_done (by kernel_rfl) ?_ _
      clear hHeld
      go_wp2_with fail
      exact ⟨⟨true, i + 1, rfl, by go_num, by omega, hid (by have := HB.out; have h2 := Hst.out; rw [h2]; simp only [true_iff] at this ⊢; exact ⟨this.1, this.2, Hq.out.1 rfl⟩), K4⟩, by simp [intOf]; omega⟩
  · obtain rfl : i = x.rm.length := by omega
    have aH := AH.out
    clear AH
    have b2 : ¬ (x.rm.length : Int) < x.rm.length := by omega
    replace HB := hid (show b = true ↔ (True ∧ (x.rm).map (fun z => z.r) = (y_.rm).map (fun z => z.r)) from by have := HB.out; rw [List.take_length, List.take_of_length_le (show y_.rm.length ≤ x.rm.length by have := HL.out; omega)] at this; exact this)
    have KLrm := KM
    clear KM
    obtain ⟨wlrm, hwl⟩ : ∃ X, X = wr := ⟨_, rfl⟩
    subst hwl
    skip
    clear p0 p1 p2 p3 p4 p5 p6 p7 p8 p9 p10 p11 p12 p13 p14 s0 s1 s2 s3 s4 s5 s6 s7 s8 s9 s10 s11 s12 s13 s14
    obtain ⟨⟨p0, p1, p2, p3, p4, p5, p6, p7, p8, p9, p10, p11, p12, p13, p14⟩, s0, s1, s2, s3, s4, s5, s6, s7, s8, s9, s10, s11, s12, s13, s14⟩ := Hcell.out _ KLrm.out
    go_wp2_with fail
    clear p0 p1 p2 p3 p4 p5 p6 p7 p8 p9 p10 p11 p12 p13 p14 s0 s1 s2 s3 s4 s5 s6 s7 s8 s9 s10 s11 s12 s13 s14
    rename_i a1 Kx a2
    clear a1
    have AH := hid a2
    clear a2
    go_loopw [5, 7] (fun sv iv wr => ∃ (b : Bool) (i : Nat), sv = .bool b ∧ iv = .int .i64 ((i : Nat) : Int) ∧ i ≤ x.ps.length ∧ Hid (b = true ↔ ((True ∧ (x.rm).map (fun z => z.r) = (y_.rm).map (fun z => z.r)) ∧ (x.ps.take i).map (fun z => z.r) = (y_.ps.take i).map (fun z => z.r))) ∧ Hid (Mem w wr [(Q, pbc y_, 34), (G, pbc x, 34)])) (fun _ iv _ => x.ps.length - (intOf iv).toNat)
    case atStart => exact ⟨_, 0, rfl, rfl, Nat.zero_le _, hid (by have := HB.out; simp only [List.take_zero, List.map_nil, and_true]; exact this), KLrm⟩
    case round =>
     clear KLrm
     clear HB
     obtain ⟨b, i, rfl, rfl, hi, HB, KM⟩ := hrel
     obtain ⟨⟨p0, p1, p2, p3, p4, p5, p6, p7, p8, p9, p10, p11, p12, p13, p14⟩, s0, s1, s2, s3, s4, s5, s6, s7, s8, s9, s10, s11, s12, s13, s14⟩ := Hcell.out _ KM.out
     by_cases hlt : i < x.ps.length
     · skip
       obtain ⟨ad, y, e0, hadb, hy, hyl, _⟩ := Es.get (K := 2) enQ_len (by decide) (HIx.out.ps.below KM.out.2 (Nat.le_refl _)) hlt
       obtain ⟨ad2, z, e02, hadb2, hz, hzl, _⟩ := Es.get (K := 2) enQ_len (by decide) (HIy.out.ps.below KM.out.2 (Nat.le_refl _)) (show i < y_.ps.length by have := HL.out; omega)
       have Hrow := hid (fun X (hb : Below w.heap.size w X) => (show X.cell? (ad.add (i * 2)) = some (txt y.r.n) ∧ X.cell? ⟨(ad.add (i * 2)).block, (ad.add (i * 2)).off + 1, none⟩ = some (.slice y.a y.r.l.length y.c) from by
        have hq := HIx.out.ps.below hb (Nat.le_refl _)
        rw [e0] at hq
        exact ⟨es_at enQ_len hq hy.out 0 _ rfl, es_fld enQ_len hq hy.out 1 (by decide) _ rfl⟩))
       have Hrow2 := hid (fun X (hb : Below w.heap.size w X) => (show X.cell? (ad2.add (i * 2)) = some (txt z.r.n) ∧ X.cell? ⟨(ad2.add (i * 2)).block, (ad2.add (i * 2)).off + 1, none⟩ = some (.slice z.a z.r.l.length z.c) from by
        have hq := HIy.out.ps.below hb (Nat.le_refl _)
        rw [e02] at hq
        exact ⟨es_at enQ_len hq hz.out 0 _ rfl, es_fld enQ_len hq hz.out 1 (by decide) _ rfl⟩))
       skip
       have i1 : (0 : Int) ≤ (i : Int) := by omega
       have i2 : (i : Int) < (x.ps.length : Int) := by omega
       have i3 : (i : Int) < (y_.ps.length : Int) := by have := HL.out; omega
       have i4 : (i : Int) + 1 ≤ 9223372036854775807 := by have := HIx.out.psC; unfold maxLen at this; omega
       have Hst := hid (take_step17 (fun z : PsA => z.r) hy.out hz.out)
       have HCy := hid (HCps.out y z hyl hzl)
       have Hq := hid (psEq_iff y.r z.r)
       obtain ⟨q, hq⟩ : ∃ q, psEq y.r z.r = q := ⟨_, rfl⟩
       rw [hq] at HCy Hq
       clear hq
       cases b with
       | false =>
        go_upto_region 11 with fail
        clear p0 p1 p2 p3 p4 p5 p6 p7 p8 p9 p10 p11 p12 p13 p14 s0 s1 s2 s3 s4 s5 s6 s7 s8 s9 s10 s11 s12 s13 s14
        refine wp_region_held_drew (S := fun X => Mem w X [(Q, pbc y_, 34), (G, pbc x, 34)]) (by kernel_rfl) KM.out.drew (fun hHeld => ?_)
        refine tkD 0 121 (.bool false) rfl rfl hHeld ?_
        simp only [pt, List.set]
        refine tkD 1 122 (.bool false) rfl rfl hHeld ?_
        simp only [pt, List.set]
        refine skD 2 123 rfl rfl hHeld ?_
        simp only [pt, List.set]
        refine skD 3 124 rfl rfl hHeld ?_
        simp only [pt, List.set]
        refine skD 4 125 rfl rfl hHeld ?_
        simp only [pt, List.set]
        refine skD 5 126 rfl rfl hHeld ?_
        simp only [pt, List.set]
        refine skD 6 127 rfl rfl hHeld ?_
        simp only [pt, List.set]
        refine skD 7 128 rfl rfl hHeld ?_
        simp only [pt, List.set]
        refine skD 8 129 rfl rfl hHeld ?_
        simp only [pt, List.set]
        refine skD 9 130 rfl rfl hHeld ?_
        simp only [pt, List.set]
        refine skD 10 131 rfl rfl hHeld ?_
        simp only [pt, List.set]
        refine skD 11 132 rfl rfl hHeld ?_
        simp only [pt, List.set]
        refine skD 12 133 rfl rfl hHeld ?_
        simp only [pt, List.set]
        refine tkD 13 134 (.bool false) rfl rfl hHeld ?_
        simp only [pt, List.set]
        refine tkD 14 5 (.bool false) rfl rfl hHeld ?_
        simp only [pt, List.set]
        refine wpAnyH_done (by kernel_rfl) ?_ _
        clear hHeld
        go_wp2_with fail
        exact ⟨⟨false, i + 1, rfl, by go_num, by omega, hid (by have := HB.out; have h2 := Hst.out; rw [h2]; simp only [Bool.false_eq_true, false_iff] at this ⊢; exact fun h => this ⟨h.1, h.2.1⟩), hid KM.out.drew⟩, by simp [intOf]; omega⟩
       | true =>
        go_upto_region 11 with fail
        clear p0 p1 p2 p3 p4 p5 p6 p7 p8 p9 p10 p11 p12 p13 p14 s0 s1 s2 s3 s4 s5 s6 s7 s8 s9 s10 s11 s12 s13 s14
        refine wp_region_held_drew (S := fun X => Mem w X [(Q, pbc y_, 34), (G, pbc x, 34)]) (by kernel_rfl) KM.out.drew (fun hHeld => ?_)
        refine tkD 0 121 (.bool true) rfl rfl hHeld ?_
        simp only [pt, List.set]
        refine tkD 1 122 (.bool true) rfl rfl hHeld ?_
        simp only [pt, List.set]
        refine tkD 2 123 (.pointer (some ⟨G, 6, none⟩)) rfl rfl hHeld ?_
        simp only [pt, List.set]
        refine tkH 3 124 (.slice (some ad) x.ps.length x.c2) rfl rfl (fun X hX => by obtain ⟨⟨p0, p1, p2, p3, p4, p5, p6, p7, p8, p9, p10, p11, p12, p13, p14⟩, s0, s1, s2, s3, s4, s5, s6, s7, s8, s9, s10, s11, s12, s13, s14⟩ := Hcell.out _ hX; rw [e0] at p6; clear hX; go_simp) hHeld ?_
        simp only [pt, List.set]
        refine tkD 4 125 (.int .i64 (i : Nat)) rfl rfl hHeld ?_
        simp only [pt, List.set]
        refine tkD 5 126 (.pointer (some (ad.add (i * 2)))) rfl rfl hHeld ?_
        simp only [pt, List.set]
        refine tkH 6 127 (.agg #[txt y.r.n, .slice y.a y.r.l.length y.c]) rfl rfl (fun X hX => by obtain ⟨u0, u1⟩ := Hrow.out X hX.2; clear hX; go_simp) hHeld ?_
        simp only [pt, List.set]
        refine tkD 7 128 (.pointer (some ⟨Q, 6, none⟩)) rfl rfl hHeld ?_
        simp only [pt, List.set]
        refine tkH 8 129 (.slice (some ad2) y_.ps.length y_.c2) rfl rfl (fun X hX => by obtain ⟨⟨p0, p1, p2, p3, p4, p5, p6, p7, p8, p9, p10, p11, p12, p13, p14⟩, s0, s1, s2, s3, s4, s5, s6, s7, s8, s9, s10, s11, s12, s13, s14⟩ := Hcell.out _ hX; rw [e02] at s6; clear hX; go_simp) hHeld ?_
        simp only [pt, List.set]
        refine tkD 9 130 (.int .i64 (i : Nat)) rfl rfl hHeld ?_
        simp only [pt, List.set]
        refine tkD 10 131 (.pointer (some (ad2.add (i * 2)))) rfl rfl hHeld ?_
        simp only [pt, List.set]
        refine tkH 11 132 (.agg #[txt z.r.n, .slice z.a z.r.l.length z.c]) rfl rfl (fun X hX => by obtain ⟨u0, u1⟩ := Hrow2.out X hX.2; clear hX; go_simp) hHeld ?_
        simp only [pt, List.set]
        clear e0 e02
        have K1 := hid KM.out.drew
        refine wpAnyH_ready (rs := [12]) (by kernel_rfl) (by simp) ?_
        refine AllReadyH.cons rfl (fun KK hK => ?_) AllReadyH.nil
        simp only [List.getElem_toArray, List.getElem_cons_succ, List.getElem_cons_zero]
        go_simp
        refine (HCy.out _ K1.out.2).mono ?_
        rintro e Y ⟨rfl, bz⟩
        have K4 := hid (K1.out.next bz)
        refine hK.out _ _ K4.out (fun hHeld => ?_)
        clear hK KK
        try simp only [pt, List.set]
        refine tkD 13 134 (.bool q) rfl rfl hHeld ?_
        simp only [pt, List.set]
        refine tkD 14 5 (.bool q) rfl rfl hHeld ?_
        simp only [pt, List.set]
        cases q with
        | false =>
         refine wpAnyH_done (by kernel_rfl) ?_ _
         clear hHeld
         go_wp2_with fail
         exact ⟨⟨false, i + 1, rfl, by go_num, by omega, hid (by have := HB.out; have h2 := Hst.out; rw [h2]; simp only [Bool.false_eq_true, false_iff]; exact fun h => absurd (Hq.out.2 h.2.2) (by decide)), K4⟩, by simp [intOf]; omega⟩
        | true =>
         refine wpAnyH_done (by kernel_rfl) ?_ _
         clear hHeld
         go_wp2_with fail
         exact ⟨⟨true, i + 1, rfl, by go_num, by omega, hid (by have := HB.out; have h2 := Hst.out; rw [h2]; simp only [true_iff] at this ⊢; exact ⟨this.1, this.2, Hq.out.1 rfl⟩), K4⟩, by simp [intOf]; omega⟩
     · obtain rfl : i = x.ps.length := by omega
       have aH := AH.out
       clear AH
       have b2 : ¬ (x.ps.length : Int) < x.ps.length := by omega
       replace HB := hid (show b = true ↔ ((True ∧ (x.rm).map (fun z => z.r) = (y_.rm).map (fun z => z.r)) ∧ (x.ps).map (fun z => z.r) = (y_.ps).map (fun z => z.r)) from by have := HB.out; rw [List.take_length, List.take_of_length_le (show y_.ps.length ≤ x.ps.length by have := HL.out; omega)] at this; exact this)
       have KLps := KM
       clear KM
       obtain ⟨wlps, hwl⟩ : ∃ X, X = wr := ⟨_, rfl⟩
       subst hwl
       skip
       clear p0 p1 p2 p3 p4 p5 p6 p7 p8 p9 p10 p11 p12 p13 p14 s0 s1 s2 s3 s4 s5 s6 s7 s8 s9 s10 s11 s12 s13 s14
       obtain ⟨⟨p0, p1, p2, p3, p4, p5, p6, p7, p8, p9, p10, p11, p12, p13, p14⟩, s0, s1, s2, s3, s4, s5, s6, s7, s8, s9, s10, s11, s12, s13, s14⟩ := Hcell.out _ KLps.out
       go_wp2_with fail
       clear p0 p1 p2 p3 p4 p5 p6 p7 p8 p9 p10 p11 p12 p13 p14 s0 s1 s2 s3 s4 s5 s6 s7 s8 s9 s10 s11 s12 s13 s14
       rename_i a1 Kx a2
       clear a1
       have AH := hid a2
       clear a2
       go_loopw [5, 8] (fun sv iv wr => ∃ (b : Bool) (i : Nat), sv = .bool b ∧ iv = .int .i64 ((i : Nat) : Int) ∧ i ≤ x.cl.length ∧ Hid (b = true ↔ (((True ∧ (x.rm).map (fun z => z.r) = (y_.rm).map (fun z => z.r)) ∧ (x.ps).map (fun z => z.r) = (y_.ps).map (fun z => z.r)) ∧ (x.cl.take i).map (fun z => z.x) = (y_.cl.take i).map (fun z => z.x))) ∧ Hid (Mem w wr [(Q, pbc y_, 34), (G, pbc x, 34)])) (fun _ iv _ => x.cl.length - (intOf iv).toNat)
       case atStart => exact ⟨_, 0, rfl, rfl, Nat.zero_le _, hid (by have := HB.out; simp only [List.take_zero, List.map_nil, and_true]; exact this), KLps⟩
       case round =>
        clear KLps
        clear HB
        obtain ⟨b, i, rfl, rfl, hi, HB, KM⟩ := hrel
        obtain ⟨⟨p0, p1, p2, p3, p4, p5, p6, p7, p8, p9, p10, p11, p12, p13, p14⟩, s0, s1, s2, s3, s4, s5, s6, s7, s8, s9, s10, s11, s12, s13, s14⟩ := Hcell.out _ KM.out
        by_cases hlt : i < x.cl.length
        · skip
          obtain ⟨ad, y, e0, hadb, hy, hyl, _⟩ := Es.get (K := 7) enC_len (by decide) (HIx.out.cl.below KM.out.2 (Nat.le_refl _)) hlt
          obtain ⟨ad2, z, e02, hadb2, hz, hzl, _⟩ := Es.get (K := 7) enC_len (by decide) (HIy.out.cl.below KM.out.2 (Nat.le_refl _)) (show i < y_.cl.length by have := HL.out; omega)
          have Hrow := hid (fun X (hb : Below w.heap.size w X) => (show X.cell? (ad.add (i * 7)) = some (txt y.x.n) ∧ X.cell? ⟨(ad.add (i * 7)).block, (ad.add (i * 7)).off + 1, none⟩ = some (.int .i64 y.x.s) ∧ X.cell? ⟨(ad.add (i * 7)).block, (ad.add (i * 7)).off + 2, none⟩ = some (.int .u16 (y.x.g : Int)) ∧ X.cell? ⟨(ad.add (i * 7)).block, (ad.add (i * 7)).off + 3, none⟩ = some (.slice y.r.a y.x.p.length y.r.ac) ∧ X.cell? ⟨(ad.add (i * 7)).block, (ad.add (i * 7)).off + 4, none⟩ = some (.slice y.r.b y.x.t.length y.r.bc) ∧ X.cell? ⟨(ad.add (i * 7)).block, (ad.add (i * 7)).off + 5, none⟩ = some (.slice y.r.c y.x.l.length y.r.cc) ∧ X.cell? ⟨(ad.add (i * 7)).block, (ad.add (i * 7)).off + 6, none⟩ = some (.int .i64 y.x.o) from by
           have hq := HIx.out.cl.below hb (Nat.le_refl _)
           rw [e0] at hq
           exact ⟨es_at enC_len hq hy.out 0 _ rfl, es_fld enC_len hq hy.out 1 (by decide) _ rfl, es_fld enC_len hq hy.out 2 (by decide) _ rfl, es_fld enC_len hq hy.out 3 (by decide) _ rfl, es_fld enC_len hq hy.out 4 (by decide) _ rfl, es_fld enC_len hq hy.out 5 (by decide) _ rfl, es_fld enC_len hq hy.out 6 (by decide) _ rfl⟩))
          have Hrow2 := hid (fun X (hb : Below w.heap.size w X) => (show X.cell? (ad2.add (i * 7)) = some (txt z.x.n) ∧ X.cell? ⟨(ad2.add (i * 7)).block, (ad2.add (i * 7)).off + 1, none⟩ = some (.int .i64 z.x.s) ∧ X.cell? ⟨(ad2.add (i * 7)).block, (ad2.add (i * 7)).off + 2, none⟩ = some (.int .u16 (z.x.g : Int)) ∧ X.cell? ⟨(ad2.add (i * 7)).block, (ad2.add (i * 7)).off + 3, none⟩ = some (.slice z.r.a z.x.p.length z.r.ac) ∧ X.cell? ⟨(ad2.add (i * 7)).block, (ad2.add (i * 7)).off + 4, none⟩ = some (.slice z.r.b z.x.t.length z.r.bc) ∧ X.cell? ⟨(ad2.add (i * 7)).block, (ad2.add (i * 7)).off + 5, none⟩ = some (.slice z.r.c z.x.l.length z.r.cc) ∧ X.cell? ⟨(ad2.add (i * 7)).block, (ad2.add (i * 7)).off + 6, none⟩ = some (.int .i64 z.x.o) from by
           have hq := HIy.out.cl.below hb (Nat.le_refl _)
           rw [e02] at hq
           exact ⟨es_at enC_len hq hz.out 0 _ rfl, es_fld enC_len hq hz.out 1 (by decide) _ rfl, es_fld enC_len hq hz.out 2 (by decide) _ rfl, es_fld enC_len hq hz.out 3 (by decide) _ rfl, es_fld enC_len hq hz.out 4 (by decide) _ rfl, es_fld enC_len hq hz.out 5 (by decide) _ rfl, es_fld enC_len hq hz.out 6 (by decide) _ rfl⟩))
          skip
          have i1 : (0 : Int) ≤ (i : Int) := by omega
          have i2 : (i : Int) < (x.cl.length : Int) := by omega
          have i3 : (i : Int) < (y_.cl.length : Int) := by have := HL.out; omega
          have i4 : (i : Int) + 1 ≤ 9223372036854775807 := by have := HIx.out.clC; unfold maxLen at this; omega
          have Hst := hid (take_step17 (fun z : ClA => z.x) hy.out hz.out)
          have HCy := hid (HCcl.out y z hyl hzl)
          have Hq := hid (clEq_iff y.x z.x)
          obtain ⟨q, hq⟩ : ∃ q, clEq y.x z.x = q := ⟨_, rfl⟩
          rw [hq] at HCy Hq
          clear hq
          cases b with
          | false =>
           go_upto_region 15 with fail
           clear p0 p1 p2 p3 p4 p5 p6 p7 p8 p9 p10 p11 p12 p13 p14 s0 s1 s2 s3 s4 s5 s6 s7 s8 s9 s10 s11 s12 s13 s14
           refine wp_region_held_drew (S := fun X => Mem w X [(Q, pbc y_, 34), (G, pbc x, 34)]) (by kernel_rfl) KM.out.drew (fun hHeld => ?_)
           refine tkD 0 142 (.bool false) rfl rfl hHeld ?_
           simp only [pt, List.set]
           refine tkD 1 143 (.bool false) rfl rfl hHeld ?_
           simp only [pt, List.set]
           refine skD 2 144 rfl rfl hHeld ?_
           simp only [pt, List.set]
           refine skD 3 145 rfl rfl hHeld ?_
           simp only [pt, List.set]
           refine skD 4 146 rfl rfl hHeld ?_
           simp only [pt, List.set]
           refine skD 5 147 rfl rfl hHeld ?_
           simp only [pt, List.set]
           refine skD 6 148 rfl rfl hHeld ?_
           simp only [pt, List.set]
           refine skD 7 149 rfl rfl hHeld ?_
           simp only [pt, List.set]
           refine skD 8 150 rfl rfl hHeld ?_
           simp only [pt, List.set]
           refine skD 9 151 rfl rfl hHeld ?_
           simp only [pt, List.set]
           refine skD 10 152 rfl rfl hHeld ?_
           simp only [pt, List.set]
           refine skD 11 153 rfl rfl hHeld ?_
           simp only [pt, List.set]
           refine skD 12 154 rfl rfl hHeld ?_
           simp only [pt, List.set]
           refine tkD 13 155 (.bool false) rfl rfl hHeld ?_
           simp only [pt, List.set]
           refine tkD 14 5 (.bool false) rfl rfl hHeld ?_
           simp only [pt, List.set]
           refine wpAnyH_done (by kernel_rfl) ?_ _
           clear hHeld
           go_wp2_with fail
           exact ⟨⟨false, i + 1, rfl, by go_num, by omega, hid (by have := HB.out; have h2 := Hst.out; rw [h2]; simp only [Bool.false_eq_true, false_iff] at this ⊢; exact fun h => this ⟨h.1, h.2.1⟩), hid KM.out.drew⟩, by simp [intOf]; omega⟩
          | true =>
           go_upto_region 15 with fail
           clear p0 p1 p2 p3 p4 p5 p6 p7 p8 p9 p10 p11 p12 p13 p14 s0 s1 s2 s3 s4 s5 s6 s7 s8 s9 s10 s11 s12 s13 s14
           refine wp_region_held_drew (S := fun X => Mem w X [(Q, pbc y_, 34), (G, pbc x, 34)]) (by kernel_rfl) KM.out.drew (fun hHeld => ?_)
           refine tkD 0 142 (.bool true) rfl rfl hHeld ?_
           simp only [pt, List.set]
           refine tkD 1 143 (.bool true) rfl rfl hHeld ?_
           simp only [pt, List.set]
           refine tkD 2 144 (.pointer (some ⟨G, 7, none⟩)) rfl rfl hHeld ?_
           simp only [pt, List.set]
           refine tkH 3 145 (.slice (some ad) x.cl.length x.c3) rfl rfl (fun X hX => by obtain ⟨⟨p0, p1, p2, p3, p4, p5, p6, p7, p8, p9, p10, p11, p12, p13, p14⟩, s0, s1, s2, s3, s4, s5, s6, s7, s8, s9, s10, s11, s12, s13, s14⟩ := Hcell.out _ hX; rw [e0] at p7; clear hX; go_simp) hHeld ?_
           simp only [pt, List.set]
           refine tkD 4 146 (.int .i64 (i : Nat)) rfl rfl hHeld ?_
           simp only [pt, List.set]
           refine tkD 5 147 (.pointer (some (ad.add (i * 7)))) rfl rfl hHeld ?_
           simp only [pt, List.set]
           refine tkH 6 148 (.agg #[txt y.x.n, .int .i64 y.x.s, .int .u16 (y.x.g : Int), .slice y.r.a y.x.p.length y.r.ac, .slice y.r.b y.x.t.length y.r.bc, .slice y.r.c y.x.l.length y.r.cc, .int .i64 y.x.o]) rfl rfl (fun X hX => by obtain ⟨u0, u1, u2, u3, u4, u5, u6⟩ := Hrow.out X hX.2; clear hX; go_simp) hHeld ?_
           simp only [pt, List.set]
           refine tkD 7 149 (.pointer (some ⟨Q, 7, none⟩)) rfl rfl hHeld ?_
           simp only [pt, List.set]
           refine tkH 8 150 (.slice (some ad2) y_.cl.length y_.c3) rfl rfl (fun X hX => by obtain ⟨⟨p0, p1, p2, p3, p4, p5, p6, p7, p8, p9, p10, p11, p12, p13, p14⟩, s0, s1, s2, s3, s4, s5, s6, s7, s8, s9, s10, s11, s12, s13, s14⟩ := Hcell.out _ hX; rw [e02] at s7; clear hX; go_simp) hHeld ?_
           simp only [pt, List.set]
           refine tkD 9 151 (.int .i64 (i : Nat)) rfl rfl hHeld ?_
           simp only [pt, List.set]
           refine tkD 10 152 (.pointer (some (ad2.add (i * 7)))) rfl rfl hHeld ?_
           simp only [pt, List.set]
           refine tkH 11 153 (.agg #[txt z.x.n, .int .i64 z.x.s, .int .u16 (z.x.g : Int), .slice z.r.a z.x.p.length z.r.ac, .slice z.r.b z.x.t.length z.r.bc, .slice z.r.c z.x.l.length z.r.cc, .int .i64 z.x.o]) rfl rfl (fun X hX => by obtain ⟨u0, u1, u2, u3, u4, u5, u6⟩ := Hrow2.out X hX.2; clear hX; go_simp) hHeld ?_
           simp only [pt, List.set]
           clear e0 e02
           have K1 := hid KM.out.drew
           refine wpAnyH_ready (rs := [12]) (by kernel_rfl) (by simp) ?_
           refine AllReadyH.cons rfl (fun KK hK => ?_) AllReadyH.nil
           simp only [List.getElem_toArray, List.getElem_cons_succ, List.getElem_cons_zero]
           go_simp
           refine (HCy.out _ K1.out.2).mono ?_
           rintro e Y ⟨rfl, bz⟩
           have K4 := hid (K1.out.next bz)
           refine hK.out _ _ K4.out (fun hHeld => ?_)
           clear hK KK
           try simp only [pt, List.set]
           refine tkD 13 155 (.bool q) rfl rfl hHeld ?_
           simp only [pt, List.set]
           refine tkD 14 5 (.bool q) rfl rfl hHeld ?_
           simp only [pt, List.set]
           cases q with
           | false =>
            refine wpAnyH_done (by kernel_rfl) ?_ _
            clear hHeld
            go_wp2_with fail
            exact ⟨⟨false, i + 1, rfl, by go_num, by omega, hid (by have := HB.out; have h2 := Hst.out; rw [h2]; simp only [Bool.false_eq_true, false_iff]; exact fun h => absurd (Hq.out.2 h.2.2) (by decide)), K4⟩, by simp [intOf]; omega⟩
           | true =>
            refine wpAnyH_done (by kernel_rfl) ?_ _
            clear hHeld
            go_wp2_with fail
            exact ⟨⟨true, i + 1, rfl, by go_num, by omega, hid (by have := HB.out; have h2 := Hst.out; rw [h2]; simp only [true_iff] at this ⊢; exact ⟨this.1, this.2, Hq.out.1 rfl⟩), K4⟩, by simp [intOf]; omega⟩
        · obtain rfl : i = x.cl.length := by omega
          have aH := AH.out
          clear AH
          have b2 : ¬ (x.cl.length : Int) < x.cl.length := by omega
          replace HB := hid (show b = true ↔ (((True ∧ (x.rm).map (fun z => z.r) = (y_.rm).map (fun z => z.r)) ∧ (x.ps).map (fun z => z.r) = (y_.ps).map (fun z => z.r)) ∧ (x.cl).map (fun z => z.x) = (y_.cl).map (fun z => z.x)) from by have := HB.out; rw [List.take_length, List.take_of_length_le (show y_.cl.length ≤ x.cl.length by have := HL.out; omega)] at this; exact this)
          have KLcl := KM
          clear KM
          obtain ⟨wlcl, hwl⟩ : ∃ X, X = wr := ⟨_, rfl⟩
          subst hwl
          skip
          clear p0 p1 p2 p3 p4 p5 p6 p7 p8 p9 p10 p11 p12 p13 p14 s0 s1 s2 s3 s4 s5 s6 s7 s8 s9 s10 s11 s12 s13 s14
          obtain ⟨⟨p0, p1, p2, p3, p4, p5, p6, p7, p8, p9, p10, p11, p12, p13, p14⟩, s0, s1, s2, s3, s4, s5, s6, s7, s8, s9, s10, s11, s12, s13, s14⟩ := Hcell.out _ KLcl.out
          go_wp2_with fail
          clear p0 p1 p2 p3 p4 p5 p6 p7 p8 p9 p10 p11 p12 p13 p14 s0 s1 s2 s3 s4 s5 s6 s7 s8 s9 s10 s11 s12 s13 s14
          rename_i a1 Kx a2
          clear a1
          have AH := hid a2
          clear a2
          go_loopw [5, 9] (fun sv iv wr => ∃ (b : Bool) (i : Nat), sv = .bool b ∧ iv = .int .i64 ((i : Nat) : Int) ∧ i ≤ x.cs.length ∧ Hid (b = true ↔ ((((True ∧ (x.rm).map (fun z => z.r) = (y_.rm).map (fun z => z.r)) ∧ (x.ps).map (fun z => z.r) = (y_.ps).map (fun z => z.r)) ∧ (x.cl).map (fun z => z.x) = (y_.cl).map (fun z => z.x)) ∧ (x.cs.take i).map (fun z => z.x) = (y_.cs.take i).map (fun z => z.x))) ∧ Hid (Mem w wr [(Q, pbc y_, 34), (G, pbc x, 34)])) (fun _ iv _ => x.cs.length - (intOf iv).toNat)
          case atStart => exact ⟨_, 0, rfl, rfl, Nat.zero_le _, hid (by have := HB.out; simp only [List.take_zero, List.map_nil, and_true]; exact this), KLcl⟩
          case round =>
           clear KLcl
           clear HB
           obtain ⟨b, i, rfl, rfl, hi, HB, KM⟩ := hrel
           obtain ⟨⟨p0, p1, p2, p3, p4, p5, p6, p7, p8, p9, p10, p11, p12, p13, p14⟩, s0, s1, s2, s3, s4, s5, s6, s7, s8, s9, s10, s11, s12, s13, s14⟩ := Hcell.out _ KM.out
           by_cases hlt : i < x.cs.length
           · skip
             obtain ⟨ad, y, e0, hadb, hy, hyl, _⟩ := Es.get (K := 2) enK_len (by decide) (HIx.out.cs.below KM.out.2 (Nat.le_refl _)) hlt
             obtain ⟨ad2, z, e02, hadb2, hz, hzl, _⟩ := Es.get (K := 2) enK_len (by decide) (HIy.out.cs.below KM.out.2 (Nat.le_refl _)) (show i < y_.cs.length by have := HL.out; omega)
             have Hrow := hid (fun X (hb : Below w.heap.size w X) => (show X.cell? (ad.add (i * 2)) = some (txt y.x.n) ∧ X.cell? ⟨(ad.add (i * 2)).block, (ad.add (i * 2)).off + 1, none⟩ = some (.slice y.a y.x.ws.length y.c) from by
              have hq := HIx.out.cs.below hb (Nat.le_refl _)
              rw [e0] at hq
              exact ⟨es_at enK_len hq hy.out 0 _ rfl, es_fld enK_len hq hy.out 1 (by decide) _ rfl⟩))
             have Hrow2 := hid (fun X (hb : Below w.heap.size w X) => (show X.cell? (ad2.add (i * 2)) = some (txt z.x.n) ∧ X.cell? ⟨(ad2.add (i * 2)).block, (ad2.add (i * 2)).off + 1, none⟩ = some (.slice z.a z.x.ws.length z.c) from by
              have hq := HIy.out.cs.below hb (Nat.le_refl _)
              rw [e02] at hq
              exact ⟨es_at enK_len hq hz.out 0 _ rfl, es_fld enK_len hq hz.out 1 (by decide) _ rfl⟩))
             skip
             have i1 : (0 : Int) ≤ (i : Int) := by omega
             have i2 : (i : Int) < (x.cs.length : Int) := by omega
             have i3 : (i : Int) < (y_.cs.length : Int) := by have := HL.out; omega
             have i4 : (i : Int) + 1 ≤ 9223372036854775807 := by have := HIx.out.csC; unfold maxLen at this; omega
             have Hst := hid (take_step17 (fun z : CsA => z.x) hy.out hz.out)
             have HCy := hid (HCcs.out y z hyl hzl)
             have Hq := hid (csEq_iff y.x z.x)
             obtain ⟨q, hq⟩ : ∃ q, csEq y.x z.x = q := ⟨_, rfl⟩
             rw [hq] at HCy Hq
             clear hq
             cases b with
             | false =>
              go_upto_region 19 with fail
              clear p0 p1 p2 p3 p4 p5 p6 p7 p8 p9 p10 p11 p12 p13 p14 s0 s1 s2 s3 s4 s5 s6 s7 s8 s9 s10 s11 s12 s13 s14
              refine wp_region_held_drew (S := fun X => Mem w X [(Q, pbc y_, 34), (G, pbc x, 34)]) (by kernel_rfl) KM.out.drew (fun hHeld => ?_)
              refine tkD 0 163 (.bool false) rfl rfl hHeld ?_
              simp only [pt, List.set]
              refine tkD 1 164 (.bool false) rfl rfl hHeld ?_
              simp only [pt, List.set]
              refine skD 2 165 rfl rfl hHeld ?_
              simp only [pt, List.set]
              refine skD 3 166 rfl rfl hHeld ?_
              simp only [pt, List.set]
              refine skD 4 167 rfl rfl hHeld ?_
              simp only [pt, List.set]
              refine skD 5 168 rfl rfl hHeld ?_
              simp only [pt, List.set]
              refine skD 6 169 rfl rfl hHeld ?_
              simp only [pt, List.set]
              refine skD 7 170 rfl rfl hHeld ?_
              simp only [pt, List.set]
              refine skD 8 171 rfl rfl hHeld ?_
              simp only [pt, List.set]
              refine skD 9 172 rfl rfl hHeld ?_
              simp only [pt, List.set]
              refine skD 10 173 rfl rfl hHeld ?_
              simp only [pt, List.set]
              refine skD 11 174 rfl rfl hHeld ?_
              simp only [pt, List.set]
              refine skD 12 175 rfl rfl hHeld ?_
              simp only [pt, List.set]
              refine tkD 13 176 (.bool false) rfl rfl hHeld ?_
              simp only [pt, List.set]
              refine tkD 14 5 (.bool false) rfl rfl hHeld ?_
              simp only [pt, List.set]
              refine wpAnyH_done (by kernel_rfl) ?_ _
              clear hHeld
              go_wp2_with fail
              exact ⟨⟨false, i + 1, rfl, by go_num, by omega, hid (by have := HB.out; have h2 := Hst.out; rw [h2]; simp only [Bool.false_eq_true, false_iff] at this ⊢; exact fun h => this ⟨h.1, h.2.1⟩), hid KM.out.drew⟩, by simp [intOf]; omega⟩
             | true =>
              go_upto_region 19 with fail
              clear p0 p1 p2 p3 p4 p5 p6 p7 p8 p9 p10 p11 p12 p13 p14 s0 s1 s2 s3 s4 s5 s6 s7 s8 s9 s10 s11 s12 s13 s14
              refine wp_region_held_drew (S := fun X => Mem w X [(Q, pbc y_, 34), (G, pbc x, 34)]) (by kernel_rfl) KM.out.drew (fun hHeld => ?_)
              refine tkD 0 163 (.bool true) rfl rfl hHeld ?_
              simp only [pt, List.set]
              refine tkD 1 164 (.bool true) rfl rfl hHeld ?_
              simp only [pt, List.set]
              refine tkD 2 165 (.pointer (some ⟨G, 8, none⟩)) rfl rfl hHeld ?_
              simp only [pt, List.set]
              refine tkH 3 166 (.slice (some ad) x.cs.length x.c4) rfl rfl (fun X hX => by obtain ⟨⟨p0, p1, p2, p3, p4, p5, p6, p7, p8, p9, p10, p11, p12, p13, p14⟩, s0, s1, s2, s3, s4, s5, s6, s7, s8, s9, s10, s11, s12, s13, s14⟩ := Hcell.out _ hX; rw [e0] at p8; clear hX; go_simp) hHeld ?_
              simp only [pt, List.set]
              refine tkD 4 167 (.int .i64 (i : Nat)) rfl rfl hHeld ?_
              simp only [pt, List.set]
              refine tkD 5 168 (.pointer (some (ad.add (i * 2)))) rfl rfl hHeld ?_
              simp only [pt, List.set]
              refine tkH 6 169 (.agg #[txt y.x.n, .slice y.a y.x.ws.length y.c]) rfl rfl (fun X hX => by obtain ⟨u0, u1⟩ := Hrow.out X hX.2; clear hX; go_simp) hHeld ?_
              simp only [pt, List.set]
              refine tkD 7 170 (.pointer (some ⟨Q, 8, none⟩)) rfl rfl hHeld ?_
              simp only [pt, List.set]
              refine tkH 8 171 (.slice (some ad2) y_.cs.length y_.c4) rfl rfl (fun X hX => by obtain ⟨⟨p0, p1, p2, p3, p4, p5, p6, p7, p8, p9, p10, p11, p12, p13, p14⟩, s0, s1, s2, s3, s4, s5, s6, s7, s8, s9, s10, s11, s12, s13, s14⟩ := Hcell.out _ hX; rw [e02] at s8; clear hX; go_simp) hHeld ?_
              simp only [pt, List.set]
              refine tkD 9 172 (.int .i64 (i : Nat)) rfl rfl hHeld ?_
              simp only [pt, List.set]
              refine tkD 10 173 (.pointer (some (ad2.add (i * 2)))) rfl rfl hHeld ?_
              simp only [pt, List.set]
              refine tkH 11 174 (.agg #[txt z.x.n, .slice z.a z.x.ws.length z.c]) rfl rfl (fun X hX => by obtain ⟨u0, u1⟩ := Hrow2.out X hX.2; clear hX; go_simp) hHeld ?_
              simp only [pt, List.set]
              clear e0 e02
              have K1 := hid KM.out.drew
              refine wpAnyH_ready (rs := [12]) (by kernel_rfl) (by simp) ?_
              refine AllReadyH.cons rfl (fun KK hK => ?_) AllReadyH.nil
              simp only [List.getElem_toArray, List.getElem_cons_succ, List.getElem_cons_zero]
              go_simp
              refine (HCy.out _ K1.out.2).mono ?_
              rintro e Y ⟨rfl, bz⟩
              have K4 := hid (K1.out.next bz)
              refine hK.out _ _ K4.out (fun hHeld => ?_)
              clear hK KK
              try simp only [pt, List.set]
              refine tkD 13 176 (.bool q) rfl rfl hHeld ?_
              simp only [pt, List.set]
              refine tkD 14 5 (.bool q) rfl rfl hHeld ?_
              simp only [pt, List.set]
              cases q with
              | false =>
               refine wpAnyH_done (by kernel_rfl) ?_ _
               clear hHeld
               go_wp2_with fail
               exact ⟨⟨false, i + 1, rfl, by go_num, by omega, hid (by have := HB.out; have h2 := Hst.out; rw [h2]; simp only [Bool.false_eq_true, false_iff]; exact fun h => absurd (Hq.out.2 h.2.2) (by decide)), K4⟩, by simp [intOf]; omega⟩
              | true =>
               refine wpAnyH_done (by kernel_rfl) ?_ _
               clear hHeld
               go_wp2_with fail
               exact ⟨⟨true, i + 1, rfl, by go_num, by omega, hid (by have := HB.out; have h2 := Hst.out; rw [h2]; simp only [true_iff] at this ⊢; exact ⟨this.1, this.2, Hq.out.1 rfl⟩), K4⟩, by simp [intOf]; omega⟩
           · obtain rfl : i = x.cs.length := by omega
             have aH := AH.out
             clear AH
             have b2 : ¬ (x.cs.length : Int) < x.cs.length := by omega
             replace HB := hid (show b = true ↔ ((((True ∧ (x.rm).map (fun z => z.r) = (y_.rm).map (fun z => z.r)) ∧ (x.ps).map (fun z => z.r) = (y_.ps).map (fun z => z.r)) ∧ (x.cl).map (fun z => z.x) = (y_.cl).map (fun z => z.x)) ∧ (x.cs).map (fun z => z.x) = (y_.cs).map (fun z => z.x)) from by have := HB.out; rw [List.take_length, List.take_of_length_le (show y_.cs.length ≤ x.cs.length by have := HL.out; omega)] at this; exact this)
             have KLcs := KM
             clear KM
             obtain ⟨wlcs, hwl⟩ : ∃ X, X = wr := ⟨_, rfl⟩
             subst hwl
             skip
             clear p0 p1 p2 p3 p4 p5 p6 p7 p8 p9 p10 p11 p12 p13 p14 s0 s1 s2 s3 s4 s5 s6 s7 s8 s9 s10 s11 s12 s13 s14
             obtain ⟨⟨p0, p1, p2, p3, p4, p5, p6, p7, p8, p9, p10, p11, p12, p13, p14⟩, s0, s1, s2, s3, s4, s5, s6, s7, s8, s9, s10, s11, s12, s13, s14⟩ := Hcell.out _ KLcs.out
             go_wp2_with fail
             clear p0 p1 p2 p3 p4 p5 p6 p7 p8 p9 p10 p11 p12 p13 p14 s0 s1 s2 s3 s4 s5 s6 s7 s8 s9 s10 s11 s12 s13 s14
             rename_i a1 Kx a2
             clear a1
             have AH := hid a2
             clear a2
             go_loopw [5, 10] (fun sv iv wr => ∃ (b : Bool) (i : Nat), sv = .bool b ∧ iv = .int .i64 ((i : Nat) : Int) ∧ i ≤ x.st.length ∧ Hid (b = true ↔ (((((True ∧ (x.rm).map (fun z => z.r) = (y_.rm).map (fun z => z.r)) ∧ (x.ps).map (fun z => z.r) = (y_.ps).map (fun z => z.r)) ∧ (x.cl).map (fun z => z.x) = (y_.cl).map (fun z => z.x)) ∧ (x.cs).map (fun z => z.x) = (y_.cs).map (fun z => z.x)) ∧ (x.st.take i).map (fun z => z.x) = (y_.st.take i).map (fun z => z.x))) ∧ Hid (Mem w wr [(Q, pbc y_, 34), (G, pbc x, 34)])) (fun _ iv _ => x.st.length - (intOf iv).toNat)
             case atStart => exact ⟨_, 0, rfl, rfl, Nat.zero_le _, hid (by have := HB.out; simp only [List.take_zero, List.map_nil, and_true]; exact this), KLcs⟩
             case round =>
              clear KLcs
              clear HB
              obtain ⟨b, i, rfl, rfl, hi, HB, KM⟩ := hrel
              obtain ⟨⟨p0, p1, p2, p3, p4, p5, p6, p7, p8, p9, p10, p11, p12, p13, p14⟩, s0, s1, s2, s3, s4, s5, s6, s7, s8, s9, s10, s11, s12, s13, s14⟩ := Hcell.out _ KM.out
              by_cases hlt : i < x.st.length
              · skip
                obtain ⟨ad, y, e0, hadb, hy, hyl, _⟩ := Es.get (K := 2) enS_len (by decide) (HIx.out.st.below KM.out.2 (Nat.le_refl _)) hlt
                obtain ⟨ad2, z, e02, hadb2, hz, hzl, _⟩ := Es.get (K := 2) enS_len (by decide) (HIy.out.st.below KM.out.2 (Nat.le_refl _)) (show i < y_.st.length by have := HL.out; omega)
                have Hrow := hid (fun X (hb : Below w.heap.size w X) => (show X.cell? (ad.add (i * 2)) = some (txt y.x.n) ∧ X.cell? ⟨(ad.add (i * 2)).block, (ad.add (i * 2)).off + 1, none⟩ = some (.slice y.a y.x.l.length y.c) from by
                 have hq := HIx.out.st.below hb (Nat.le_refl _)
                 rw [e0] at hq
                 exact ⟨es_at enS_len hq hy.out 0 _ rfl, es_fld enS_len hq hy.out 1 (by decide) _ rfl⟩))
                have Hrow2 := hid (fun X (hb : Below w.heap.size w X) => (show X.cell? (ad2.add (i * 2)) = some (txt z.x.n) ∧ X.cell? ⟨(ad2.add (i * 2)).block, (ad2.add (i * 2)).off + 1, none⟩ = some (.slice z.a z.x.l.length z.c) from by
                 have hq := HIy.out.st.below hb (Nat.le_refl _)
                 rw [e02] at hq
                 exact ⟨es_at enS_len hq hz.out 0 _ rfl, es_fld enS_len hq hz.out 1 (by decide) _ rfl⟩))
                skip
                have i1 : (0 : Int) ≤ (i : Int) := by omega
                have i2 : (i : Int) < (x.st.length : Int) := by omega
                have i3 : (i : Int) < (y_.st.length : Int) := by have := HL.out; omega
                have i4 : (i : Int) + 1 ≤ 9223372036854775807 := by have := HIx.out.stC; unfold maxLen at this; omega
                have Hst := hid (take_step17 (fun z : StA => z.x) hy.out hz.out)
                cases b with
                | false =>
                 go_upto_region 23 with fail
                 clear p0 p1 p2 p3 p4 p5 p6 p7 p8 p9 p10 p11 p12 p13 p14 s0 s1 s2 s3 s4 s5 s6 s7 s8 s9 s10 s11 s12 s13 s14
                 refine wp_region_held_drew (S := fun X => Mem w X [(Q, pbc y_, 34), (G, pbc x, 34)]) (by kernel_rfl) KM.out.drew (fun hHeld => ?_)
                 refine tkD 0 184 (.bool false) rfl rfl hHeld ?_
                 simp only [pt, List.set]
                 refine tkD 1 185 (.bool false) rfl rfl hHeld ?_
                 simp only [pt, List.set]
                 refine skD 2 186 rfl rfl hHeld ?_
                 simp only [pt, List.set]
                 refine skD 3 187 rfl rfl hHeld ?_
                 simp only [pt, List.set]
                 refine skD 4 188 rfl rfl hHeld ?_
                 simp only [pt, List.set]
                 refine skD 5 189 rfl rfl hHeld ?_
                 simp only [pt, List.set]
                 refine skD 6 190 rfl rfl hHeld ?_
                 simp only [pt, List.set]
                 refine skD 7 191 rfl rfl hHeld ?_
                 simp only [pt, List.set]
                 refine skD 8 192 rfl rfl hHeld ?_
                 simp only [pt, List.set]
                 refine skD 9 193 rfl rfl hHeld ?_
                 simp only [pt, List.set]
                 refine skD 10 194 rfl rfl hHeld ?_
                 simp only [pt, List.set]
                 refine skD 11 195 rfl rfl hHeld ?_
                 simp only [pt, List.set]
                 refine skD 12 196 rfl rfl hHeld ?_
                 simp only [pt, List.set]
                 refine skD 13 197 rfl rfl hHeld ?_
                 simp only [pt, List.set]
                 refine skD 14 198 rfl rfl hHeld ?_
                 simp only [pt, List.set]
                 refine tkD 15 199 (.bool false) rfl rfl hHeld ?_
                 simp only [pt, List.set]
                 refine tkD 16 200 (.bool false) rfl rfl hHeld ?_
                 simp only [pt, List.set]
                 refine skD 17 201 rfl rfl hHeld ?_
                 simp only [pt, List.set]
                 refine skD 18 202 rfl rfl hHeld ?_
                 simp only [pt, List.set]
                 refine skD 19 203 rfl rfl hHeld ?_
                 simp only [pt, List.set]
                 refine skD 20 204 rfl rfl hHeld ?_
                 simp only [pt, List.set]
                 refine skD 21 205 rfl rfl hHeld ?_
                 simp only [pt, List.set]
                 refine skD 22 206 rfl rfl hHeld ?_
                 simp only [pt, List.set]
                 refine skD 23 207 rfl rfl hHeld ?_
                 simp only [pt, List.set]
                 refine skD 24 208 rfl rfl hHeld ?_
                 simp only [pt, List.set]
                 refine skD 25 209 rfl rfl hHeld ?_
                 simp only [pt, List.set]
                 refine skD 26 210 rfl rfl hHeld ?_
                 simp only [pt, List.set]
                 refine skD 27 211 rfl rfl hHeld ?_
                 simp only [pt, List.set]
                 refine skD 28 212 rfl rfl hHeld ?_
                 simp only [pt, List.set]
                 refine skD 29 213 rfl rfl hHeld ?_
                 simp only [pt, List.set]
                 refine tkD 30 214 (.bool false) rfl rfl hHeld ?_
                 simp only [pt, List.set]
                 refine tkD 31 5 (.bool false) rfl rfl hHeld ?_
                 simp only [pt, List.set]
                 refine wpAnyH_done (by kernel_rfl) ?_ _
                 clear hHeld
                 go_wp2_with fail
                 exact ⟨⟨false, i + 1, rfl, by go_num, by omega, hid (by have := HB.out; have h2 := Hst.out; rw [h2]; simp only [Bool.false_eq_true, false_iff] at this ⊢; exact fun h => this ⟨h.1, h.2.1⟩), hid KM.out.drew⟩, by simp [intOf]; omega⟩
                | true =>
                 go_upto_region 23 with fail
                 clear p0 p1 p2 p3 p4 p5 p6 p7 p8 p9 p10 p11 p12 p13 p14 s0 s1 s2 s3 s4 s5 s6 s7 s8 s9 s10 s11 s12 s13 s14
                 refine wp_region_held_drew (S := fun X => Mem w X [(Q, pbc y_, 34), (G, pbc x, 34)]) (by kernel_rfl) KM.out.drew (fun hHeld => ?_)
                 refine tkD 0 184 (.bool true) rfl rfl hHeld ?_
                 simp only [pt, List.set]
                 refine tkD 1 185 (.bool true) rfl rfl hHeld ?_
                 simp only [pt, List.set]
                 obtain ⟨q1, hq1⟩ : ∃ q, decide (y.x.n = z.x.n) = q := ⟨_, rfl⟩
                 have q0 : ((bs y.x.n).toList == (bs z.x.n).toList) = q1 := by rw [list_of, list_of, bs_data, bs_data, ← hq1]; by_cases h : y.x.n = z.x.n <;> simp [h]
                 have Hq1 := hid (show q1 = true ↔ y.x.n = z.x.n from by rw [← hq1]; exact decide_eq_true_iff)
                 clear hq1
                 refine tkD 2 186 (.pointer (some ⟨G, 9, none⟩)) rfl rfl hHeld ?_
                 simp only [pt, List.set]
                 refine tkH 3 187 (.slice (some ad) x.st.length x.c5) rfl rfl (fun X hX => by obtain ⟨⟨p0, p1, p2, p3, p4, p5, p6, p7, p8, p9, p10, p11, p12, p13, p14⟩, s0, s1, s2, s3, s4, s5, s6, s7, s8, s9, s10, s11, s12, s13, s14⟩ := Hcell.out _ hX; rw [e0] at p9; clear hX; go_simp) hHeld ?_
                 simp only [pt, List.set]
                 refine tkD 4 188 (.int .i64 (i : Nat)) rfl rfl hHeld ?_
                 simp only [pt, List.set]
                 refine tkD 5 189 (.pointer (some (ad.add (i * 2)))) rfl rfl hHeld ?_
                 simp only [pt, List.set]
                 refine tkD 6 190 (.pointer (some (ad.add (i * 2)))) rfl rfl hHeld ?_
                 simp only [pt, List.set]
                 refine tkH 7 191 (txt y.x.n) rfl rfl (fun X hX => by obtain ⟨u0, u1⟩ := Hrow.out X hX.2; clear hX; go_simp) hHeld ?_
                 simp only [pt, List.set]
                 refine tkD 8 192 (.pointer (some ⟨Q, 9, none⟩)) rfl rfl hHeld ?_
                 simp only [pt, List.set]
                 refine tkH 9 193 (.slice (some ad2) y_.st.length y_.c5) rfl rfl (fun X hX => by obtain ⟨⟨p0, p1, p2, p3, p4, p5, p6, p7, p8, p9, p10, p11, p12, p13, p14⟩, s0, s1, s2, s3, s4, s5, s6, s7, s8, s9, s10, s11, s12, s13, s14⟩ := Hcell.out _ hX; rw [e02] at s9; clear hX; go_simp) hHeld ?_
                 simp only [pt, List.set]
                 refine tkD 10 194 (.int .i64 (i : Nat)) rfl rfl hHeld ?_
                 simp only [pt, List.set]
                 refine tkD 11 195 (.pointer (some (ad2.add (i * 2)))) rfl rfl hHeld ?_
                 simp only [pt, List.set]
                 refine tkD 12 196 (.pointer (some (ad2.add (i * 2)))) rfl rfl hHeld ?_
                 simp only [pt, List.set]
                 refine tkH 13 197 (txt z.x.n) rfl rfl (fun X hX => by obtain ⟨u0, u1⟩ := Hrow2.out X hX.2; clear hX; go_simp) hHeld ?_
                 simp only [pt, List.set]
                 refine tkD 14 198 (.bool q1) rfl rfl hHeld ?_
                 simp only [pt, List.set]
                 refine tkD 15 199 (.bool q1) rfl rfl hHeld ?_
                 simp only [pt, List.set]
                 refine tkD 16 200 (.bool q1) rfl rfl hHeld ?_
                 simp only [pt, List.set]
                 have HCy := hid (HCst.out y z hyl hzl)
                 cases q1 with
                 | false =>
                  refine skD 17 201 rfl rfl hHeld ?_
                  simp only [pt, List.set]
                  refine skD 18 202 rfl rfl hHeld ?_
                  simp only [pt, List.set]
                  refine skD 19 203 rfl rfl hHeld ?_
                  simp only [pt, List.set]
                  refine skD 20 204 rfl rfl hHeld ?_
                  simp only [pt, List.set]
                  refine skD 21 205 rfl rfl hHeld ?_
                  simp only [pt, List.set]
                  refine skD 22 206 rfl rfl hHeld ?_
                  simp only [pt, List.set]
                  refine skD 23 207 rfl rfl hHeld ?_
                  simp only [pt, List.set]
                  refine skD 24 208 rfl rfl hHeld ?_
                  simp only [pt, List.set]
                  refine skD 25 209 rfl rfl hHeld ?_
                  simp only [pt, List.set]
                  refine skD 26 210 rfl rfl hHeld ?_
                  simp only [pt, List.set]
                  refine skD 27 211 rfl rfl hHeld ?_
                  simp only [pt, List.set]
                  refine skD 28 212 rfl rfl hHeld ?_
                  simp only [pt, List.set]
                  refine skD 29 213 rfl rfl hHeld ?_
                  simp only [pt, List.set]
                  refine tkD 30 214 (.bool false) rfl rfl hHeld ?_
                  simp only [pt, List.set]
                  refine tkD 31 5 (.bool false) rfl rfl hHeld ?_
                  simp only [pt, List.set]
                  refine wpAnyH_done (by kernel_rfl) ?_ _
                  clear hHeld
                  go_wp2_with fail
                  exact ⟨⟨false, i + 1, rfl, by go_num, by omega, hid (by have := HB.out; have h2 := Hst.out; rw [h2]; simp only [Bool.false_eq_true, false_iff]; exact fun h => absurd (Hq1.out.2 (congrArg St.n h.2.2)) (by decide)), hid KM.out.drew⟩, by simp [intOf]; omega⟩
                 | true =>
                  obtain ⟨q, hq⟩ : ∃ q, decide (y.x.l = z.x.l) = q := ⟨_, rfl⟩
                  have Hq := hid (show q = true ↔ y.x = z.x from by rw [← hq, decide_eq_true_iff]; exact st_ext17 (Hq1.out.1 rfl))
                  rw [hq] at HCy
                  clear hq
                  refine tkD 17 201 (.pointer (some ⟨G, 9, none⟩)) rfl rfl hHeld ?_
                  simp only [pt, List.set]
                  refine tkH 18 202 (.slice (some ad) x.st.length x.c5) rfl rfl (fun X hX => by obtain ⟨⟨p0, p1, p2, p3, p4, p5, p6, p7, p8, p9, p10, p11, p12, p13, p14⟩, s0, s1, s2, s3, s4, s5, s6, s7, s8, s9, s10, s11, s12, s13, s14⟩ := Hcell.out _ hX; rw [e0] at p9; clear hX; go_simp) hHeld ?_
                  simp only [pt, List.set]
                  refine tkD 19 203 (.int .i64 (i : Nat)) rfl rfl hHeld ?_
                  simp only [pt, List.set]
                  refine tkD 20 204 (.pointer (some (ad.add (i * 2)))) rfl rfl hHeld ?_
                  simp only [pt, List.set]
                  refine tkD 21 205 (.pointer (some ⟨(ad.add (i * 2)).block, (ad.add (i * 2)).off + 1, none⟩)) rfl rfl hHeld ?_
                  simp only [pt, List.set]
                  refine tkH 22 206 (.slice y.a y.x.l.length y.c) rfl rfl (fun X hX => by obtain ⟨u0, u1⟩ := Hrow.out X hX.2; clear hX; go_simp) hHeld ?_
                  simp only [pt, List.set]
                  refine tkD 23 207 (.pointer (some ⟨Q, 9, none⟩)) rfl rfl hHeld ?_
                  simp only [pt, List.set]
                  refine tkH 24 208 (.slice (some ad2) y_.st.length y_.c5) rfl rfl (fun X hX => by obtain ⟨⟨p0, p1, p2, p3, p4, p5, p6, p7, p8, p9, p10, p11, p12, p13, p14⟩, s0, s1, s2, s3, s4, s5, s6, s7, s8, s9, s10, s11, s12, s13, s14⟩ := Hcell.out _ hX; rw [e02] at s9; clear hX; go_simp) hHeld ?_
                  simp only [pt, List.set]
                  refine tkD 25 209 (.int .i64 (i : Nat)) rfl rfl hHeld ?_
                  simp only [pt, List.set]
                  refine tkD 26 210 (.pointer (some (ad2.add (i * 2)))) rfl rfl hHeld ?_
                  simp only [pt, List.set]
                  refine tkD 27 211 (.pointer (some ⟨(ad2.add (i * 2)).block, (ad2.add (i * 2)).off + 1, none⟩)) rfl rfl hHeld ?_
                  simp only [pt, List.set]
                  refine tkH 28 212 (.slice z.a z.x.l.length z.c) rfl rfl (fun X hX => by obtain ⟨u0, u1⟩ := Hrow2.out X hX.2; clear hX; go_simp) hHeld ?_
                  simp only [pt, List.set]
                  clear e0 e02
                  have K1 := hid KM.out.drew
                  refine wpAnyH_ready (rs := [29]) (by kernel_rfl) (by simp) ?_
                  refine AllReadyH.cons rfl (fun KK hK => ?_) AllReadyH.nil
                  simp only [List.getElem_toArray, List.getElem_cons_succ, List.getElem_cons_zero]
                  go_simp
                  refine (HCy.out _ K1.out.2).mono ?_
                  rintro e Y ⟨rfl, bz⟩
                  have K4 := hid (K1.out.next bz)
                  refine hK.out _ _ K4.out (fun hHeld => ?_)
                  clear hK KK
                  try simp only [pt, List.set]
                  refine tkD 30 214 (.bool q) rfl rfl hHeld ?_
                  simp only [pt, List.set]
                  refine tkD 31 5 (.bool q) rfl rfl hHeld ?_
                  simp only [pt, List.set]
                  cases q with
                  | false =>
                   refine wpAnyH_done (by kernel_rfl) ?_ _
                   clear hHeld
                   go_wp2_with fail
                   exact ⟨⟨false, i + 1, rfl, by go_num, by omega, hid (by have := HB.out; have h2 := Hst.out; rw [h2]; simp only [Bool.false_eq_true, false_iff]; exact fun h => absurd (Hq.out.2 h.2.2) (by decide)), K4⟩, by simp [intOf]; omega⟩
                  | true =>
                   refine wpAnyH_done (by kernel_rfl) ?_ _
                   clear hHeld
                   go_wp2_with fail
                   exact ⟨⟨true, i + 1, rfl, by go_num, by omega, hid (by have := HB.out; have h2 := Hst.out; rw [h2]; simp only [true_iff] at this ⊢; exact ⟨this.1, this.2, Hq.out.1 rfl⟩), K4⟩, by simp [intOf]; omega⟩
              · obtain rfl : i = x.st.length := by omega
                have aH := AH.out
                clear AH
                have b2 : ¬ (x.st.length : Int) < x.st.length := by omega
                replace HB := hid (show b = true ↔ (((((True ∧ (x.rm).map (fun z => z.r) = (y_.rm).map (fun z => z.r)) ∧ (x.ps).map (fun z => z.r) = (y_.ps).map (fun z => z.r)) ∧ (x.cl).map (fun z => z.x) = (y_.cl).map (fun z => z.x)) ∧ (x.cs).map (fun z => z.x) = (y_.cs).map (fun z => z.x)) ∧ (x.st).map (fun z => z.x) = (y_.st).map (fun z => z.x)) from by have := HB.out; rw [List.take_length, List.take_of_length_le (show y_.st.length ≤ x.st.length by have := HL.out; omega)] at this; exact this)
                have KLst := KM
                clear KM
                obtain ⟨wlst, hwl⟩ : ∃ X, X = wr := ⟨_, rfl⟩
                subst hwl
                skip
                clear p0 p1 p2 p3 p4 p5 p6 p7 p8 p9 p10 p11 p12 p13 p14 s0 s1 s2 s3 s4 s5 s6 s7 s8 s9 s10 s11 s12 s13 s14
                obtain ⟨⟨p0, p1, p2, p3, p4, p5, p6, p7, p8, p9, p10, p11, p12, p13, p14⟩, s0, s1, s2, s3, s4, s5, s6, s7, s8, s9, s10, s11, s12, s13, s14⟩ := Hcell.out _ KLst.out
                go_wp2_with fail
                clear p0 p1 p2 p3 p4 p5 p6 p7 p8 p9 p10 p11 p12 p13 p14 s0 s1 s2 s3 s4 s5 s6 s7 s8 s9 s10 s11 s12 s13 s14
                rename_i a1 Kx a2
                clear a1
                have AH := hid a2
                clear a2
                go_loopw [5, 11] (fun sv iv wr => ∃ (b : Bool) (i : Nat), sv = .bool b ∧ iv = .int .i64 ((i : Nat) : Int) ∧ i ≤ x.rl.length ∧ Hid (b = true ↔ ((((((True ∧ (x.rm).map (fun z => z.r) = (y_.rm).map (fun z => z.r)) ∧ (x.ps).map (fun z => z.r) = (y_.ps).map (fun z => z.r)) ∧ (x.cl).map (fun z => z.x) = (y_.cl).map (fun z => z.x)) ∧ (x.cs).map (fun z => z.x) = (y_.cs).map (fun z => z.x)) ∧ (x.st).map (fun z => z.x) = (y_.st).map (fun z => z.x)) ∧ (x.rl.take i).map (fun z => z.x) = (y_.rl.take i).map (fun z => z.x))) ∧ Hid (Mem w wr [(Q, pbc y_, 34), (G, pbc x, 34)])) (fun _ iv _ => x.rl.length - (intOf iv).toNat)
                case atStart => exact ⟨_, 0, rfl, rfl, Nat.zero_le _, hid (by have := HB.out; simp only [List.take_zero, List.map_nil, and_true]; exact this), KLst⟩
                case round =>
                 clear KLst
                 clear HB
                 obtain ⟨b, i, rfl, rfl, hi, HB, KM⟩ := hrel
                 obtain ⟨⟨p0, p1, p2, p3, p4, p5, p6, p7, p8, p9, p10, p11, p12, p13, p14⟩, s0, s1, s2, s3, s4, s5, s6, s7, s8, s9, s10, s11, s12, s13, s14⟩ := Hcell.out _ KM.out
                 by_cases hlt : i < x.rl.length
                 · skip
                   obtain ⟨ad, y, e0, hadb, hy, hyl, _⟩ := Es.get (K := 6) enU_len (by decide) (HIx.out.rl.below KM.out.2 (Nat.le_refl _)) hlt
                   obtain ⟨ad2, z, e02, hadb2, hz, hzl, _⟩ := Es.get (K := 6) enU_len (by decide) (HIy.out.rl.below KM.out.2 (Nat.le_refl _)) (show i < y_.rl.length by have := HL.out; omega)
                   have Hrow := hid (fun X (hb : Below w.heap.size w X) => (show X.cell? (ad.add (i * 6)) = some (.int .i64 y.x.k) ∧ X.cell? ⟨(ad.add (i * 6)).block, (ad.add (i * 6)).off + 1, none⟩ = some (.slice y.r y.x.l.length y.c) ∧ X.cell? ⟨(ad.add (i * 6)).block, (ad.add (i * 6)).off + 2, none⟩ = some (.int .i64 y.x.a) ∧ X.cell? ⟨(ad.add (i * 6)).block, (ad.add (i * 6)).off + 3, none⟩ = some (.int .i64 y.x.b) ∧ X.cell? ⟨(ad.add (i * 6)).block, (ad.add (i * 6)).off + 4, none⟩ = some (.bool y.x.h) ∧ X.cell? ⟨(ad.add (i * 6)).block, (ad.add (i * 6)).off + 5, none⟩ = some (.int .i64 y.x.c) from by
                    have hq := HIx.out.rl.below hb (Nat.le_refl _)
                    rw [e0] at hq
                    exact ⟨es_at enU_len hq hy.out 0 _ rfl, es_fld enU_len hq hy.out 1 (by decide) _ rfl, es_fld enU_len hq hy.out 2 (by decide) _ rfl, es_fld enU_len hq hy.out 3 (by decide) _ rfl, es_fld enU_len hq hy.out 4 (by decide) _ rfl, es_fld enU_len hq hy.out 5 (by decide) _ rfl⟩))
                   have Hrow2 := hid (fun X (hb : Below w.heap.size w X) => (show X.cell? (ad2.add (i * 6)) = some (.int .i64 z.x.k) ∧ X.cell? ⟨(ad2.add (i * 6)).block, (ad2.add (i * 6)).off + 1, none⟩ = some (.slice z.r z.x.l.length z.c) ∧ X.cell? ⟨(ad2.add (i * 6)).block, (ad2.add (i * 6)).off + 2, none⟩ = some (.int .i64 z.x.a) ∧ X.cell? ⟨(ad2.add (i * 6)).block, (ad2.add (i * 6)).off + 3, none⟩ = some (.int .i64 z.x.b) ∧ X.cell? ⟨(ad2.add (i * 6)).block, (ad2.add (i * 6)).off + 4, none⟩ = some (.bool z.x.h) ∧ X.cell? ⟨(ad2.add (i * 6)).block, (ad2.add (i * 6)).off + 5, none⟩ = some (.int .i64 z.x.c) from by
                    have hq := HIy.out.rl.below hb (Nat.le_refl _)
                    rw [e02] at hq
                    exact ⟨es_at enU_len hq hz.out 0 _ rfl, es_fld enU_len hq hz.out 1 (by decide) _ rfl, es_fld enU_len hq hz.out 2 (by decide) _ rfl, es_fld enU_len hq hz.out 3 (by decide) _ rfl, es_fld enU_len hq hz.out 4 (by decide) _ rfl, es_fld enU_len hq hz.out 5 (by decide) _ rfl⟩))
                   skip
                   have i1 : (0 : Int) ≤ (i : Int) := by omega
                   have i2 : (i : Int) < (x.rl.length : Int) := by omega
                   have i3 : (i : Int) < (y_.rl.length : Int) := by have := HL.out; omega
                   have i4 : (i : Int) + 1 ≤ 9223372036854775807 := by have := HIx.out.rlC; unfold maxLen at this; omega
                   have Hst := hid (take_step17 (fun z : RlA => z.x) hy.out hz.out)
                   have HCy := hid (HCrl.out y z hyl hzl)
                   have Hq := hid (rlEq_iff y.x z.x)
                   obtain ⟨q, hq⟩ : ∃ q, rlEq y.x z.x = q := ⟨_, rfl⟩
                   rw [hq] at HCy Hq
                   clear hq
                   cases b with
                   | false =>
                    go_upto_region 27 with fail
                    clear p0 p1 p2 p3 p4 p5 p6 p7 p8 p9 p10 p11 p12 p13 p14 s0 s1 s2 s3 s4 s5 s6 s7 s8 s9 s10 s11 s12 s13 s14
                    refine wp_region_held_drew (S := fun X => Mem w X [(Q, pbc y_, 34), (G, pbc x, 34)]) (by kernel_rfl) KM.out.drew (fun hHeld => ?_)
                    refine tkD 0 222 (.bool false) rfl rfl hHeld ?_
                    simp only [pt, List.set]
                    refine tkD 1 223 (.bool false) rfl rfl hHeld ?_
                    simp only [pt, List.set]
                    refine skD 2 224 rfl rfl hHeld ?_
                    simp only [pt, List.set]
                    refine skD 3 225 rfl rfl hHeld ?_
                    simp only [pt, List.set]
                    refine skD 4 226 rfl rfl hHeld ?_
                    simp only [pt, List.set]
                    refine skD 5 227 rfl rfl hHeld ?_
                    simp only [pt, List.set]
                    refine skD 6 228 rfl rfl hHeld ?_
                    simp only [pt, List.set]
                    refine skD 7 229 rfl rfl hHeld ?_
                    simp only [pt, List.set]
                    refine skD 8 230 rfl rfl hHeld ?_
                    simp only [pt, List.set]
                    refine skD 9 231 rfl rfl hHeld ?_
                    simp only [pt, List.set]
                    refine skD 10 232 rfl rfl hHeld ?_
                    simp only [pt, List.set]
                    refine skD 11 233 rfl rfl hHeld ?_
                    simp only [pt, List.set]
                    refine skD 12 234 rfl rfl hHeld ?_
                    simp only [pt, List.set]
                    refine tkD 13 235 (.bool false) rfl rfl hHeld ?_
                    simp only [pt, List.set]
                    refine tkD 14 5 (.bool false) rfl rfl hHeld ?_
                    simp only [pt, List.set]
                    refine wpAnyH_done (by kernel_rfl) ?_ _
                    clear hHeld
                    go_wp2_with fail
                    exact ⟨⟨false, i + 1, rfl, by go_num, by omega, hid (by have := HB.out; have h2 := Hst.out; rw [h2]; simp only [Bool.false_eq_true, false_iff] at this ⊢; exact fun h => this ⟨h.1, h.2.1⟩), hid KM.out.drew⟩, by simp [intOf]; omega⟩
                   | true =>
                    go_upto_region 27 with fail
                    clear p0 p1 p2 p3 p4 p5 p6 p7 p8 p9 p10 p11 p12 p13 p14 s0 s1 s2 s3 s4 s5 s6 s7 s8 s9 s10 s11 s12 s13 s14
                    refine wp_region_held_drew (S := fun X => Mem w X [(Q, pbc y_, 34), (G, pbc x, 34)]) (by kernel_rfl) KM.out.drew (fun hHeld => ?_)
                    refine tkD 0 222 (.bool true) rfl rfl hHeld ?_
                    simp only [pt, List.set]
                    refine tkD 1 223 (.bool true) rfl rfl hHeld ?_
                    simp only [pt, List.set]
                    refine tkD 2 224 (.pointer (some ⟨G, 10, none⟩)) rfl rfl hHeld ?_
                    simp only [pt, List.set]
                    refine tkH 3 225 (.slice (some ad) x.rl.length x.c6) rfl rfl (fun X hX => by obtain ⟨⟨p0, p1, p2, p3, p4, p5, p6, p7, p8, p9, p10, p11, p12, p13, p14⟩, s0, s1, s2, s3, s4, s5, s6, s7, s8, s9, s10, s11, s12, s13, s14⟩ := Hcell.out _ hX; rw [e0] at p10; clear hX; go_simp) hHeld ?_
                    simp only [pt, List.set]
                    refine tkD 4 226 (.int .i64 (i : Nat)) rfl rfl hHeld ?_
                    simp only [pt, List.set]
                    refine tkD 5 227 (.pointer (some (ad.add (i * 6)))) rfl rfl hHeld ?_
                    simp only [pt, List.set]
                    refine tkH 6 228 (.agg #[.int .i64 y.x.k, .slice y.r y.x.l.length y.c, .int .i64 y.x.a, .int .i64 y.x.b, .bool y.x.h, .int .i64 y.x.c]) rfl rfl (fun X hX => by obtain ⟨u0, u1, u2, u3, u4, u5⟩ := Hrow.out X hX.2; clear hX; go_simp) hHeld ?_
                    simp only [pt, List.set]
                    refine tkD 7 229 (.pointer (some ⟨Q, 10, none⟩)) rfl rfl hHeld ?_
                    simp only [pt, List.set]
                    refine tkH 8 230 (.slice (some ad2) y_.rl.length y_.c6) rfl rfl (fun X hX => by obtain ⟨⟨p0, p1, p2, p3, p4, p5, p6, p7, p8, p9, p10, p11, p12, p13, p14⟩, s0, s1, s2, s3, s4, s5, s6, s7, s8, s9, s10, s11, s12, s13, s14⟩ := Hcell.out _ hX; rw [e02] at s10; clear hX; go_simp) hHeld ?_
                    simp only [pt, List.set]
                    refine tkD 9 231 (.int .i64 (i : Nat)) rfl rfl hHeld ?_
                    simp only [pt, List.set]
                    refine tkD 10 232 (.pointer (some (ad2.add (i * 6)))) rfl rfl hHeld ?_
                    simp only [pt, List.set]
                    refine tkH 11 233 (.agg #[.int .i64 z.x.k, .slice z.r z.x.l.length z.c, .int .i64 z.x.a, .int .i64 z.x.b, .bool z.x.h, .int .i64 z.x.c]) rfl rfl (fun X hX => by obtain ⟨u0, u1, u2, u3, u4, u5⟩ := Hrow2.out X hX.2; clear hX; go_simp) hHeld ?_
                    simp only [pt, List.set]
                    clear e0 e02
                    have K1 := hid KM.out.drew
                    refine wpAnyH_ready (rs := [12]) (by kernel_rfl) (by simp) ?_
                    refine AllReadyH.cons rfl (fun KK hK => ?_) AllReadyH.nil
                    simp only [List.getElem_toArray, List.getElem_cons_succ, List.getElem_cons_zero]
                    go_simp
                    refine (HCy.out _ K1.out.2).mono ?_
                    rintro e Y ⟨rfl, bz⟩
                    have K4 := hid (K1.out.next bz)
                    refine hK.out _ _ K4.out (fun hHeld => ?_)
                    clear hK KK
                    try simp only [pt, List.set]
                    refine tkD 13 235 (.bool q) rfl rfl hHeld ?_
                    simp only [pt, List.set]
                    refine tkD 14 5 (.bool q) rfl rfl hHeld ?_
                    simp only [pt, List.set]
                    cases q with
                    | false =>
                     refine wpAnyH_done (by kernel_rfl) ?_ _
                     clear hHeld
                     go_wp2_with fail
                     exact ⟨⟨false, i + 1, rfl, by go_num, by omega, hid (by have := HB.out; have h2 := Hst.out; rw [h2]; simp only [Bool.false_eq_true, false_iff]; exact fun h => absurd (Hq.out.2 h.2.2) (by decide)), K4⟩, by simp [intOf]; omega⟩
                    | true =>
                     refine wpAnyH_done (by kernel_rfl) ?_ _
                     clear hHeld
                     go_wp2_with fail
                     exact ⟨⟨true, i + 1, rfl, by go_num, by omega, hid (by have := HB.out; have h2 := Hst.out; rw [h2]; simp only [true_iff] at this ⊢; exact ⟨this.1, this.2, Hq.out.1 rfl⟩), K4⟩, by simp [intOf]; omega⟩
                 · obtain rfl : i = x.rl.length := by omega
                   have aH := AH.out
                   clear AH
                   have b2 : ¬ (x.rl.length : Int) < x.rl.length := by omega
                   replace HB := hid (show b = true ↔ ((((((True ∧ (x.rm).map (fun z => z.r) = (y_.rm).map (fun z => z.r)) ∧ (x.ps).map (fun z => z.r) = (y_.ps).map (fun z => z.r)) ∧ (x.cl).map (fun z => z.x) = (y_.cl).map (fun z => z.x)) ∧ (x.cs).map (fun z => z.x) = (y_.cs).map (fun z => z.x)) ∧ (x.st).map (fun z => z.x) = (y_.st).map (fun z => z.x)) ∧ (x.rl).map (fun z => z.x) = (y_.rl).map (fun z => z.x)) from by have := HB.out; rw [List.take_length, List.take_of_length_le (show y_.rl.length ≤ x.rl.length by have := HL.out; omega)] at this; exact this)
                   have KLrl := KM
                   clear KM
                   obtain ⟨wlrl, hwl⟩ : ∃ X, X = wr := ⟨_, rfl⟩
                   subst hwl
                   clear p0 p1 p2 p3 p4 p5 p6 p7 p8 p9 p10 p11 p12 p13 p14 s0 s1 s2 s3 s4 s5 s6 s7 s8 s9 s10 s11 s12 s13 s14
                   obtain ⟨⟨p0, p1, p2, p3, p4, p5, p6, p7, p8, p9, p10, p11, p12, p13, p14⟩, s0, s1, s2, s3, s4, s5, s6, s7, s8, s9, s10, s11, s12, s13, s14⟩ := Hcell.out _ KLrl.out
                   go_wp2_with fail
                   skip
                   go_ret
                   exact ⟨b, rfl, by rw [HB.out, HP.out]; have e := HE.out; exact ⟨fun h => ⟨e.1, e.2.1, e.2.2.1, e.2.2.2, h.1.1.1.1.1.2, h.1.1.1.1.2, h.1.1.1.2, h.1.1.2, h.1.2, h.2⟩, fun h => ⟨⟨⟨⟨⟨⟨trivial, h.2.2.2.2.1⟩, h.2.2.2.2.2.1⟩, h.2.2.2.2.2.2.1⟩, h.2.2.2.2.2.2.2.1⟩, h.2.2.2.2.2.2.2.2.1⟩, h.2.2.2.2.2.2.2.2.2⟩⟩, KLrl.out.2⟩
theorem r17_Same (x y_ : PbA) (w : World) (h1 : PbIn w x) (h2 : PbIn w y_) : Calls Tryz.prog 20 #[pbv x, pbv y_] w (CtRet (x.p = y_.p) w) := by
 by_cases e0 : x.n = y_.n
 case neg => exact r17_Same_0 x y_ w h1 h2 e0
 by_cases e1 : x.g = y_.g
 case neg => exact r17_Same_1 x y_ w h1 h2 e0 e1
 by_cases e2 : (x.w0 = y_.w0 ∧ x.w1 = y_.w1 ∧ x.w2 = y_.w2 ∧ x.w3 = y_.w3)
 case neg => exact r17_Same_2 x y_ w h1 h2 e0 e1 e2
 by_cases e3 : x.wk = y_.wk
 case neg => exact r17_Same_3 x y_ w h1 h2 e0 e1 e2 e3
 by_cases e4 : x.rm.length = y_.rm.length
 case neg => exact r17_Same_4 x y_ w h1 h2 e0 e1 e2 e3 e4
 by_cases e5 : x.ps.length = y_.ps.length
 case neg => exact r17_Same_5 x y_ w h1 h2 e0 e1 e2 e3 e4 e5
 by_cases e6 : x.cl.length = y_.cl.length
 case neg => exact r17_Same_6 x y_ w h1 h2 e0 e1 e2 e3 e4 e5 e6
 by_cases e7 : x.cs.length = y_.cs.length
 case neg => exact r17_Same_7 x y_ w h1 h2 e0 e1 e2 e3 e4 e5 e6 e7
 by_cases e8 : x.st.length = y_.st.length
 case neg => exact r17_Same_8 x y_ w h1 h2 e0 e1 e2 e3 e4 e5 e6 e7 e8
 by_cases e9 : x.rl.length = y_.rl.length
 case neg => exact r17_Same_9 x y_ w h1 h2 e0 e1 e2 e3 e4 e5 e6 e7 e8 e9
 exact r17_Same_10 x y_ w h1 h2 e0 e1 e2 e3 e4 e5 e6 e7 e8 e9
end Go.Proofs.YtgmgccepmalahaaGreat
