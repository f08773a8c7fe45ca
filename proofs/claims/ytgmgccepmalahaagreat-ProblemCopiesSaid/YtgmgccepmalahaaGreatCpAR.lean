/- What the proof of ProblemCopies stands on, part 18. -/
import Derived.OwnWalk
import Derived.Deep.RegionHeld3
import Derived.Test.YtgmgccepmalahaaGreatCpAA
import Derived.Test.YtgmgccepmalahaaGreatCpAF
import Derived.Test.YtgmgccepmalahaaGreatCpAI
import Derived.Test.YtgmgccepmalahaaGreatCpAL
import Derived.Test.YtgmgccepmalahaaGreatCpAN
import Derived.Test.YtgmgccepmalahaaGreatCpAO
import Derived.Test.YtgmgccepmalahaaGreatCpAP
import Derived.Test.YtgmgccepmalahaaGreatCpAQ
namespace Go.Proofs.YtgmgccepmalahaaGreat
open Go.RowKit
open Whn (Gr Wh)
theorem plF_stay {l : List Cl} {most : Int} (hm : 1 ≤ most) (hk : ∀ (i : Nat) (y : Cl), l[i]? = some y → 1 ≤ (seats y).length) {i : Nat} (h : plF l most i = most) : ∀ j, i ≤ j → j ≤ l.length → plF l most j = most := by
 intro j
 induction j with
 | zero => intro h1 _; obtain rfl : i = 0 := by omega
           exact h
 | succ j ih =>
  intro h1 h2
  rcases Nat.lt_or_ge j i with h3 | h3
  · obtain rfl : i = j + 1 := by omega
    exact h
  · have ihj := ih h3 (by omega)
    obtain ⟨y, hy⟩ : ∃ y, l[j]? = some y := ⟨_, List.getElem?_eq_getElem (by omega)⟩
    have hkk := hk j y hy
    have e : plF l most (j + 1) = (if most / (((seats y).length : Nat) : Int) < plF l most j then most else plF l most j * (((seats y).length : Nat) : Int)) := by
     rw [plF, List.getD_eq_getElem?_getD, hy]
     rfl
    rw [e, ihj]
    by_cases hc : most / (((seats y).length : Nat) : Int) < most
    · rw [if_pos hc]
    · rw [if_neg hc]
      have h1 : (seats y).length = 1 := by
       rcases Nat.lt_or_ge 1 (seats y).length with h4 | h4
       · exfalso
         apply hc
         exact Int.ediv_lt_of_lt_mul (by omega) (by
          have : most * 2 ≤ most * (((seats y).length : Nat) : Int) := Int.mul_le_mul_of_nonneg_left (by omega) (by omega)
          omega)
       · omega
      rw [h1]; simp
set_option maxRecDepth 20000 in
set_option maxHeartbeats 8000000 in
theorem p_Plans17 (x : PbA) (most : Int) (hmost : I64 most) (w : World) (h : PbIn w x) (hf : PbFew x) : Calls Tryz.prog 23 #[pbv x, .int .i64 most] w (Did (.int .i64 (plV x.p most)) w) := by
 have HR := hid (fun X (hb : Below w.heap.size w X) => p_Right17 x X (h.next hb) hf)
 have Hr := hid (show plV x.p most = if pbR x.p = false ∨ most < 1 then 0 else plF x.p.cl most x.p.cl.length from rfl)
 have hpl : x.p.cl.length = x.cl.length := List.length_map ..
 unfold I64 at hmost
 have hfl := hf.2.2.2.1
 have HI := hid h
 generalize plV x.p most = rr at *
 obtain ⟨G, W, hG, hW, K, hb0⟩ := (Mem.nil w).one (pbc x) 34
 have Hcell := hid (fun X (h : Mem w X [(G, pbc x, 34)]) => h.pb (B := G) (x := x) (t := 34) (by simp))
 obtain ⟨p0, p1, p2, p3, p4, p5, p6, p7, p8, p9, p10, p11, p12, p13, p14⟩ := Hcell.out _ K.out
 by_cases hm : most < 1
 · have Hd := hid (show rr = 0 from by rw [Hr.out, if_pos (.inr hm)])
   clear h hb0 hf Hr HR
   go_enter Tryz.func23, Tryz.ntmps23
   go_wp2_with fail
   go_ret
   exact Did.mk (by rw [Hd.out]; rfl) K.out.2
 · have m1 : ¬ most < 1 := hm
   by_cases hR : pbR x.p = true
   · have Hd := hid (show rr = plF x.p.cl most x.cl.length from by rw [Hr.out, if_neg (fun h => h.elim (fun h => by rw [hR] at h; cases h) hm), hpl])
     have Hk := hid (fun i y (hy : x.cl[i]? = some y) => seats_pos (cl_right hR (i := i) (y := y.x) (by show (x.cl.map (·.x))[i]? = _; rw [List.getElem?_map, hy]; rfl)))
     have Hsm := hid (fun i y (hy : x.cl[i]? = some y) => cl_small (cl_right hR (i := i) (y := y.x) (by show (x.cl.map (·.x))[i]? = _; rw [List.getElem?_map, hy]; rfl)))
     have hkl : ∀ (i : Nat) (y : Cl), x.p.cl[i]? = some y → 1 ≤ (seats y).length := fun i y hy => by
      have hy' : (x.cl.map (·.x))[i]? = some y := hy
      rw [List.getElem?_map] at hy'
      cases hq : x.cl[i]? with
      | none => rw [hq] at hy'; cases hy'
      | some z =>
       rw [hq] at hy'
       obtain rfl := Option.some.inj hy'
       exact (Hk.out i z hq).1
     have Hbn := hid (plF_bnd (l := x.p.cl) (most := most) (by omega) hkl)
     have Hsy := hid (fun i => plF_stay (l := x.p.cl) (most := most) (by omega) hkl (i := i))
     rw [hpl] at Hbn Hsy
     have Hst := hid (fun i y (hy : x.cl[i]? = some y) => show plF x.p.cl most (i + 1) = (if most / (((seats y.x).length : Nat) : Int) < plF x.p.cl most i then most else plF x.p.cl most i * (((seats y.x).length : Nat) : Int)) from by
      rw [plF, List.getD_eq_getElem?_getD, show x.p.cl[i]? = some y.x from by show (x.cl.map (·.x))[i]? = _; rw [List.getElem?_map, hy]; rfl]
      rfl)
     have Hz := hid (show plF x.p.cl most 0 = 1 from rfl)
     generalize plF x.p.cl most = F at *
     rw [hR] at HR
     clear h hb0 hf Hr hR hpl hkl
     go_enter Tryz.func23, Tryz.ntmps23
     go_wp2_with fail
     refine (HR.out _ K.out.2).mono ?_
     rintro e Y ⟨rfl, bz⟩
     have K1 := hid (K.out.next bz)
     clear p0 p1 p2 p3 p4 p5 p6 p7 p8 p9 p10 p11 p12 p13 p14 bz
     obtain ⟨p0, p1, p2, p3, p4, p5, p6, p7, p8, p9, p10, p11, p12, p13, p14⟩ := Hcell.out _ K1.out
     clear hW K
     go_wp2_with fail
     clear p0 p1 p2 p3 p4 p5 p6 p7 p8 p9 p10 p11 p12 p13 p14
     have HCl := hid HI.out.cl
     generalize x.r3 = A3 at Hcell HCl ⊢
     go_loopw [5, 19] (fun nv iv wr => ∃ i : Nat, iv = .int .i64 i ∧ i ≤ x.cl.length ∧ nv = .int .i64 (F i) ∧ Hid (Mem w wr [(G, pbc x, 34)])) (fun _ iv _ => x.cl.length - (intOf iv).toNat)
     case atStart => exact ⟨0, rfl, Nat.zero_le _, by rw [Hz.out], K1⟩
     case round =>
      clear K1
      obtain ⟨i, rfl, hi, rfl, KM⟩ := hrel
      have hbn := Hbn.out i hi
      by_cases hlt : i < x.cl.length
      · obtain ⟨ad, y, rfl, had, hy, hyl, _⟩ := Es.get enC_len (by decide) (HCl.out.below KM.out.2 (Nat.le_refl _)) hlt
        have hq := HCl.out.below KM.out.2 (Nat.le_refl _)
        obtain ⟨d0, d1, d2, d3, d4, d5, d6⟩ : wr.cell? (ad.add (i * 7)) = some (txt y.x.n) ∧ wr.cell? ⟨(ad.add (i * 7)).block, (ad.add (i * 7)).off + 1, none⟩ = some (.int .i64 y.x.s) ∧ wr.cell? ⟨(ad.add (i * 7)).block, (ad.add (i * 7)).off + 2, none⟩ = some (.int .u16 (y.x.g : Int)) ∧ wr.cell? ⟨(ad.add (i * 7)).block, (ad.add (i * 7)).off + 3, none⟩ = some (.slice y.r.a y.x.p.length y.r.ac) ∧ wr.cell? ⟨(ad.add (i * 7)).block, (ad.add (i * 7)).off + 4, none⟩ = some (.slice y.r.b y.x.t.length y.r.bc) ∧ wr.cell? ⟨(ad.add (i * 7)).block, (ad.add (i * 7)).off + 5, none⟩ = some (.slice y.r.c y.x.l.length y.r.cc) ∧ wr.cell? ⟨(ad.add (i * 7)).block, (ad.add (i * 7)).off + 6, none⟩ = some (.int .i64 y.x.o) := ⟨es_at enC_len hq hy.out 0 _ rfl, es_fld enC_len hq hy.out 1 (by decide) _ rfl, es_fld enC_len hq hy.out 2 (by decide) _ rfl, es_fld enC_len hq hy.out 3 (by decide) _ rfl, es_fld enC_len hq hy.out 4 (by decide) _ rfl, es_fld enC_len hq hy.out 5 (by decide) _ rfl, es_fld enC_len hq hy.out 6 (by decide) _ rfl⟩
        obtain ⟨D, U, hD, hU, KD, hbD⟩ := KM.out.one (enC y) 62
        obtain ⟨c0, c1, c2, c3, c4, c5, c6⟩ : U.cell? ⟨D, 0, none⟩ = some (txt y.x.n) ∧ U.cell? ⟨D, 1, none⟩ = some (.int .i64 y.x.s) ∧ U.cell? ⟨D, 2, none⟩ = some (.int .u16 (y.x.g : Int)) ∧ U.cell? ⟨D, 3, none⟩ = some (.slice y.r.a y.x.p.length y.r.ac) ∧ U.cell? ⟨D, 4, none⟩ = some (.slice y.r.b y.x.t.length y.r.bc) ∧ U.cell? ⟨D, 5, none⟩ = some (.slice y.r.c y.x.l.length y.r.cc) ∧ U.cell? ⟨D, 6, none⟩ = some (.int .i64 y.x.o) := ⟨KD.out.cell (b := D) (cs := enC y) (t := 62) (by simp) (k := 0) rfl, KD.out.cell (b := D) (cs := enC y) (t := 62) (by simp) (k := 1) rfl, KD.out.cell (b := D) (cs := enC y) (t := 62) (by simp) (k := 2) rfl, KD.out.cell (b := D) (cs := enC y) (t := 62) (by simp) (k := 3) rfl, KD.out.cell (b := D) (cs := enC y) (t := 62) (by simp) (k := 4) rfl, KD.out.cell (b := D) (cs := enC y) (t := 62) (by simp) (k := 5) rfl, KD.out.cell (b := D) (cs := enC y) (t := 62) (by simp) (k := 6) rfl⟩
        have hk := Hk.out i y hy.out
        have hsm := Hsm.out i y hy.out
        have HS := hid (fun X => p_CountC y.x y.r (by omega) (by omega) X)
        have Hs1 := hid (Hst.out i y hy.out)
        have hbn2 := Hbn.out (i + 1) hlt
        have Hsy1 := hid (Hsy.out (i + 1))
        rw [Hs1.out] at hbn2
        obtain ⟨k, hkk⟩ : ∃ k, (seats y.x).length = k := ⟨_, rfl⟩
        rw [hkk] at hk Hs1 hbn2 HS
        have Hfl := hid (show F x.cl.length = F x.cl.length from rfl)
        obtain ⟨n, hn⟩ : ∃ n, F i = n := ⟨_, rfl⟩
        rw [hn] at hbn hbn2 Hs1 ⊢
        have i1 : (0 : Int) ≤ (i : Int) := by omega
        have i2 : (i : Int) < (x.cl.length : Int) := by omega
        have Hile := hid (show i + 1 ≤ x.cl.length from hlt)
        clear hq Hk Hsm Hbn Hst Hz hkk hsm hm Hfl hn hbD
        go_wp2_with fail
        refine (HS.out _).mono ?_
        rintro e Y2 ⟨rfl, bz⟩
        have K2 := hid ((KD.out.next bz).sub (l' := [(G, pbc x, 34)]) (by simp))
        clear d0 d1 d2 d3 d4 d5 d6 c0 c1 c2 c3 c4 c5 c6 bz KM KD hU hD
        obtain ⟨q, hq⟩ : ∃ q, most / (k : Int) = q := ⟨_, rfl⟩
        have q0 : 0 ≤ q := by rw [← hq]; exact Int.ediv_nonneg (by omega) (by omega)
        have q1 : q ≤ most := by rw [← hq]; exact Int.ediv_le_self _ (by omega)
        have hq2 : IntKind.i64.wrap (most / (k : Int)) = q := by rw [hq, IntKind.wrap_i64]; omega
        have hq3 : most.tdiv (k : Int) = q := by rw [Int.tdiv_eq_ediv_of_nonneg (by omega)]; exact hq
        have k0 : ¬ (k : Int) = 0 := by omega
        rw [hq] at Hs1 hbn2
        by_cases hgt : q < n
        · rw [if_pos hgt] at Hs1
          have Hend := hid (Hsy1.out Hs1.out x.cl.length Hile.out (Nat.le_refl _))
          go_wp2_with fail
          go_ret
          exact Did.mk (by rw [Hd.out, Hend.out]; rfl) K2.out.2
        · rw [if_neg hgt] at Hs1 hbn2
          obtain ⟨m, hmm⟩ : ∃ m, n * (k : Int) = m := ⟨_, rfl⟩
          rw [hmm] at Hs1 hbn2
          have hw64 : wrap64 (n * (k : Int)) = m := by rw [hmm]; exact IntWalk.wrap64_in _ ⟨by omega, by omega⟩
          have HW64 := hid hw64
          clear hmm hw64
          go_wp2_with fail
          exact ⟨⟨i + 1, by go_num, by omega, by rw [Hs1.out, HW64.out], K2⟩, by simp [intOf]; omega⟩
      · obtain rfl : i = x.cl.length := by omega
        have i2 : ¬ (x.cl.length : Int) < (x.cl.length : Int) := by omega
        go_wp2_with fail
        go_ret
        exact Did.mk (by rw [Hd.out]; rfl) KM.out.2
   · have hR2 : pbR x.p = false := by simpa using hR
     have Hd := hid (show rr = 0 from by rw [Hr.out, if_pos (.inl hR2)])
     rw [hR2] at HR
     clear h hb0 hf Hr hR hR2
     go_enter Tryz.func23, Tryz.ntmps23
     go_wp2_with fail
     refine (HR.out _ K.out.2).mono ?_
     rintro e Y ⟨rfl, bz⟩
     have K1 := hid (K.out.next bz)
     clear p0 p1 p2 p3 p4 p5 p6 p7 p8 p9 p10 p11 p12 p13 p14
     go_wp2_with fail
     go_ret
     exact Did.mk (by rw [Hd.out]; rfl) K1.out.2
end Go.Proofs.YtgmgccepmalahaaGreat
namespace Go.Proofs.YtgmgccepmalahaaGreat
open Go.RowKit
open Whn (Gr Wh)
theorem CtRet.d17 {P : Prop} [d : Decidable P] {w w' : World} {e : Ending} (h : CtRet P w e w') : Did (.bool (decide P)) w e w' := by
 obtain ⟨b, he, hb, hw⟩ := h
 refine ⟨?_, hw⟩
 rw [he]
 congr 2
 rw [Bool.eq_iff_iff, hb, decide_eq_true_iff]
theorem rows2_nil (w : World) (B : Nat) (A : Option Addr) : Rows2 w B A [] := fun h => absurd rfl h
def QN : CpQ := fun _ _ n _ _ => n = 0
theorem QN_ok : CpOk QN := ⟨fun _ _ _ _ _ _ h _ => h, fun _ _ _ _ _ _ h _ => h⟩
theorem Tryz.inf17_room : (Tryz.prog.info? 52).map (fun i => (i.zero, i.size, i.bytes)) = some (some (.agg #[.string ⟨#[]⟩, .int .i64 0, .int .u16 0, .slice none 0 0]), 4, 56) := by kernel_rfl
theorem Tryz.inf17_ints : (Tryz.prog.info? 43).map (fun i => (i.zero, i.size, i.bytes)) = some (some (.slice none 0 0), 1, 24) := by kernel_rfl
theorem Tryz.inf17_person : (Tryz.prog.info? 57).map (fun i => (i.zero, i.size, i.bytes)) = some (some (.agg #[.string ⟨#[]⟩, .slice none 0 0]), 2, 40) := by kernel_rfl
theorem Tryz.inf17_class : (Tryz.prog.info? 62).map (fun i => (i.zero, i.size, i.bytes)) = some (some (.agg #[.string ⟨#[]⟩, .int .i64 0, .int .u16 0, .slice none 0 0, .slice none 0 0, .slice none 0 0, .int .i64 0]), 7, 112) := by kernel_rfl
theorem Tryz.inf17_course : (Tryz.prog.info? 65).map (fun i => (i.zero, i.size, i.bytes)) = some (some (.agg #[.string ⟨#[]⟩, .slice none 0 0]), 2, 40) := by kernel_rfl
theorem Tryz.inf17_student : (Tryz.prog.info? 70).map (fun i => (i.zero, i.size, i.bytes)) = some (some (.agg #[.string ⟨#[]⟩, .slice none 0 0]), 2, 40) := by kernel_rfl
theorem Tryz.inf17_rule : (Tryz.prog.info? 45).map (fun i => (i.zero, i.size, i.bytes)) = some (some (.agg #[.int .i64 0, .slice none 0 0, .int .i64 0, .int .i64 0, .bool false, .int .i64 0]), 6, 64) := by kernel_rfl
set_option maxRecDepth 20000 in
theorem cp0_0 (w : World) : Calls Tryz.prog 69 #[.slice none 0 0, .func (.func 70) #[] #[]] w (CpRet QN w) := by
 obtain ⟨i0, hi0, hz0, hz1, hz2⟩ := info_parts Tryz.inf17_room
 go_enter Tryz.func69, Tryz.ntmps69
 go_wp2_with (at_make; refine wpList_make_own _ rfl _ _ 24 rfl w.heap.size 52 i0 (.agg #[.string ⟨#[]⟩, .int .i64 0, .int .u16 0, .slice none 0 0]) 4 Tryz.underlying24 hi0 hz0 hz1 .i64 .i64 0 0 rfl rfl rfl (by omega) (by unfold maxLen; omega) (Nat.le_refl _) ?_; intro w1 hown hgrow; have hb := hid ((Below.refl w.heap.size w).grown hgrow (Nat.le_refl _) (fun k hk => by cases hk)); clear hown hgrow)
 go_loopw [5, 13] (fun v iv wr => v = .slice (some ⟨w.heap.size, 0, none⟩) 0 0 ∧ iv = .int .i64 0 ∧ Hid (Below w.heap.size w wr)) (fun _ _ _ => 0)
 case atStart => exact ⟨rfl, rfl, hb⟩
 case round =>
  obtain ⟨rfl, rfl, hB⟩ := hrel
  go_wp2_with fail
  go_ret
  exact ⟨_, _, _, rfl, rfl, hB.out⟩
set_option maxRecDepth 20000 in
theorem cp0_1 (w : World) : Calls Tryz.prog 71 #[.slice none 0 0, .func (.func 72) #[] #[]] w (CpRet QN w) := by
 obtain ⟨i0, hi0, hz0, hz1, hz2⟩ := info_parts Tryz.inf17_ints
 go_enter Tryz.func71, Tryz.ntmps71
 go_wp2_with (at_make; refine wpList_make_own _ rfl _ _ 25 rfl w.heap.size 43 i0 (.slice none 0 0) 1 Tryz.underlying25 hi0 hz0 hz1 .i64 .i64 0 0 rfl rfl rfl (by omega) (by unfold maxLen; omega) (Nat.le_refl _) ?_; intro w1 hown hgrow; have hb := hid ((Below.refl w.heap.size w).grown hgrow (Nat.le_refl _) (fun k hk => by cases hk)); clear hown hgrow)
 go_loopw [5, 13] (fun v iv wr => v = .slice (some ⟨w.heap.size, 0, none⟩) 0 0 ∧ iv = .int .i64 0 ∧ Hid (Below w.heap.size w wr)) (fun _ _ _ => 0)
 case atStart => exact ⟨rfl, rfl, hb⟩
 case round =>
  obtain ⟨rfl, rfl, hB⟩ := hrel
  go_wp2_with fail
  go_ret
  exact ⟨_, _, _, rfl, rfl, hB.out⟩
set_option maxRecDepth 20000 in
theorem cp0_2 (w : World) : Calls Tryz.prog 73 #[.slice none 0 0, .func (.func 74) #[] #[]] w (CpRet QN w) := by
 obtain ⟨i0, hi0, hz0, hz1, hz2⟩ := info_parts Tryz.inf17_person
 go_enter Tryz.func73, Tryz.ntmps73
 go_wp2_with (at_make; refine wpList_make_own _ rfl _ _ 26 rfl w.heap.size 57 i0 (.agg #[.string ⟨#[]⟩, .slice none 0 0]) 2 Tryz.underlying26 hi0 hz0 hz1 .i64 .i64 0 0 rfl rfl rfl (by omega) (by unfold maxLen; omega) (Nat.le_refl _) ?_; intro w1 hown hgrow; have hb := hid ((Below.refl w.heap.size w).grown hgrow (Nat.le_refl _) (fun k hk => by cases hk)); clear hown hgrow)
 go_loopw [5, 13] (fun v iv wr => v = .slice (some ⟨w.heap.size, 0, none⟩) 0 0 ∧ iv = .int .i64 0 ∧ Hid (Below w.heap.size w wr)) (fun _ _ _ => 0)
 case atStart => exact ⟨rfl, rfl, hb⟩
 case round =>
  obtain ⟨rfl, rfl, hB⟩ := hrel
  go_wp2_with fail
  go_ret
  exact ⟨_, _, _, rfl, rfl, hB.out⟩
set_option maxRecDepth 20000 in
theorem cp0_3 (w : World) : Calls Tryz.prog 75 #[.slice none 0 0, .func (.func 76) #[] #[]] w (CpRet QN w) := by
 obtain ⟨i0, hi0, hz0, hz1, hz2⟩ := info_parts Tryz.inf17_class
 go_enter Tryz.func75, Tryz.ntmps75
 go_wp2_with (at_make; refine wpList_make_own _ rfl _ _ 27 rfl w.heap.size 62 i0 (.agg #[.string ⟨#[]⟩, .int .i64 0, .int .u16 0, .slice none 0 0, .slice none 0 0, .slice none 0 0, .int .i64 0]) 7 Tryz.underlying27 hi0 hz0 hz1 .i64 .i64 0 0 rfl rfl rfl (by omega) (by unfold maxLen; omega) (Nat.le_refl _) ?_; intro w1 hown hgrow; have hb := hid ((Below.refl w.heap.size w).grown hgrow (Nat.le_refl _) (fun k hk => by cases hk)); clear hown hgrow)
 go_loopw [5, 13] (fun v iv wr => v = .slice (some ⟨w.heap.size, 0, none⟩) 0 0 ∧ iv = .int .i64 0 ∧ Hid (Below w.heap.size w wr)) (fun _ _ _ => 0)
 case atStart => exact ⟨rfl, rfl, hb⟩
 case round =>
  obtain ⟨rfl, rfl, hB⟩ := hrel
  go_wp2_with fail
  go_ret
  exact ⟨_, _, _, rfl, rfl, hB.out⟩
set_option maxRecDepth 20000 in
theorem cp0_4 (w : World) : Calls Tryz.prog 77 #[.slice none 0 0, .func (.func 78) #[] #[]] w (CpRet QN w) := by
 obtain ⟨i0, hi0, hz0, hz1, hz2⟩ := info_parts Tryz.inf17_course
 go_enter Tryz.func77, Tryz.ntmps77
 go_wp2_with (at_make; refine wpList_make_own _ rfl _ _ 28 rfl w.heap.size 65 i0 (.agg #[.string ⟨#[]⟩, .slice none 0 0]) 2 Tryz.underlying28 hi0 hz0 hz1 .i64 .i64 0 0 rfl rfl rfl (by omega) (by unfold maxLen; omega) (Nat.le_refl _) ?_; intro w1 hown hgrow; have hb := hid ((Below.refl w.heap.size w).grown hgrow (Nat.le_refl _) (fun k hk => by cases hk)); clear hown hgrow)
 go_loopw [5, 13] (fun v iv wr => v = .slice (some ⟨w.heap.size, 0, none⟩) 0 0 ∧ iv = .int .i64 0 ∧ Hid (Below w.heap.size w wr)) (fun _ _ _ => 0)
 case atStart => exact ⟨rfl, rfl, hb⟩
 case round =>
  obtain ⟨rfl, rfl, hB⟩ := hrel
  go_wp2_with fail
  go_ret
  exact ⟨_, _, _, rfl, rfl, hB.out⟩
set_option maxRecDepth 20000 in
theorem cp0_5 (w : World) : Calls Tryz.prog 79 #[.slice none 0 0, .func (.func 80) #[] #[]] w (CpRet QN w) := by
 obtain ⟨i0, hi0, hz0, hz1, hz2⟩ := info_parts Tryz.inf17_student
 go_enter Tryz.func79, Tryz.ntmps79
 go_wp2_with (at_make; refine wpList_make_own _ rfl _ _ 29 rfl w.heap.size 70 i0 (.agg #[.string ⟨#[]⟩, .slice none 0 0]) 2 Tryz.underlying29 hi0 hz0 hz1 .i64 .i64 0 0 rfl rfl rfl (by omega) (by unfold maxLen; omega) (Nat.le_refl _) ?_; intro w1 hown hgrow; have hb := hid ((Below.refl w.heap.size w).grown hgrow (Nat.le_refl _) (fun k hk => by cases hk)); clear hown hgrow)
 go_loopw [5, 13] (fun v iv wr => v = .slice (some ⟨w.heap.size, 0, none⟩) 0 0 ∧ iv = .int .i64 0 ∧ Hid (Below w.heap.size w wr)) (fun _ _ _ => 0)
 case atStart => exact ⟨rfl, rfl, hb⟩
 case round =>
  obtain ⟨rfl, rfl, hB⟩ := hrel
  go_wp2_with fail
  go_ret
  exact ⟨_, _, _, rfl, rfl, hB.out⟩
set_option maxRecDepth 20000 in
theorem cp0_6 (w : World) : Calls Tryz.prog 81 #[.slice none 0 0, .func (.func 82) #[] #[]] w (CpRet QN w) := by
 obtain ⟨i0, hi0, hz0, hz1, hz2⟩ := info_parts Tryz.inf17_rule
 go_enter Tryz.func81, Tryz.ntmps81
 go_wp2_with (at_make; refine wpList_make_own _ rfl _ _ 30 rfl w.heap.size 45 i0 (.agg #[.int .i64 0, .slice none 0 0, .int .i64 0, .int .i64 0, .bool false, .int .i64 0]) 6 Tryz.underlying30 hi0 hz0 hz1 .i64 .i64 0 0 rfl rfl rfl (by omega) (by unfold maxLen; omega) (Nat.le_refl _) ?_; intro w1 hown hgrow; have hb := hid ((Below.refl w.heap.size w).grown hgrow (Nat.le_refl _) (fun k hk => by cases hk)); clear hown hgrow)
 go_loopw [5, 13] (fun v iv wr => v = .slice (some ⟨w.heap.size, 0, none⟩) 0 0 ∧ iv = .int .i64 0 ∧ Hid (Below w.heap.size w wr)) (fun _ _ _ => 0)
 case atStart => exact ⟨rfl, rfl, hb⟩
 case round =>
  obtain ⟨rfl, rfl, hB⟩ := hrel
  go_wp2_with fail
  go_ret
  exact ⟨_, _, _, rfl, rfl, hB.out⟩
def p17 : PbA := ⟨[112], ⟨1, 5, 10⟩, [], [], [], [], [], [], [], 0, 0, 0, 0, none, 0, none, 0, none, 0, none, 0, none, 0, none, 0, none, 0⟩
def z17 : PbA := ⟨[], ⟨0, 0, 0⟩, [], [], [], [], [], [], [], 0, 0, 0, 0, none, 0, none, 0, none, 0, none, 0, none, 0, none, 0, none, 0⟩
theorem p17_in (w : World) : PbIn w p17 where
 hn := by show ([112] : List UInt8).length ≤ maxLen; unfold maxLen; simp
 hg := by show Gok ⟨1, 5, 10⟩; unfold Gok I64; simp only; omega
 rm := Rd.none_ _ _ _
 rmI := fun y hy => (nomatch hy)
 rmC := ⟨Nat.le_refl _, Nat.zero_le _⟩
 wk := rows2_nil _ _ _
 wkI := fun y hy => (nomatch hy)
 wkC := ⟨Nat.le_refl _, Nat.zero_le _⟩
 ps := Rd.none_ _ _ _
 psI := fun y hy => (nomatch hy)
 psC := ⟨Nat.le_refl _, Nat.zero_le _⟩
 cl := Rd.none_ _ _ _
 clI := fun y hy => (nomatch hy)
 clC := ⟨Nat.le_refl _, Nat.zero_le _⟩
 cs := Rd.none_ _ _ _
 csI := fun y hy => (nomatch hy)
 csC := ⟨Nat.le_refl _, Nat.zero_le _⟩
 st := Rd.none_ _ _ _
 stI := fun y hy => (nomatch hy)
 stC := ⟨Nat.le_refl _, Nat.zero_le _⟩
 rl := Rd.none_ _ _ _
 rlI := fun y hy => (nomatch hy)
 rlC := ⟨Nat.le_refl _, Nat.zero_le _⟩
 hw := by unfold I64 p17; simp only; omega
theorem z17_in (w : World) : PbIn w z17 where
 hn := by show ([] : List UInt8).length ≤ maxLen; unfold maxLen; simp
 hg := by show Gok ⟨0, 0, 0⟩; unfold Gok I64; simp only; omega
 rm := Rd.none_ _ _ _
 rmI := fun y hy => (nomatch hy)
 rmC := ⟨Nat.le_refl _, Nat.zero_le _⟩
 wk := rows2_nil _ _ _
 wkI := fun y hy => (nomatch hy)
 wkC := ⟨Nat.le_refl _, Nat.zero_le _⟩
 ps := Rd.none_ _ _ _
 psI := fun y hy => (nomatch hy)
 psC := ⟨Nat.le_refl _, Nat.zero_le _⟩
 cl := Rd.none_ _ _ _
 clI := fun y hy => (nomatch hy)
 clC := ⟨Nat.le_refl _, Nat.zero_le _⟩
 cs := Rd.none_ _ _ _
 csI := fun y hy => (nomatch hy)
 csC := ⟨Nat.le_refl _, Nat.zero_le _⟩
 st := Rd.none_ _ _ _
 stI := fun y hy => (nomatch hy)
 stC := ⟨Nat.le_refl _, Nat.zero_le _⟩
 rl := Rd.none_ _ _ _
 rlI := fun y hy => (nomatch hy)
 rlC := ⟨Nat.le_refl _, Nat.zero_le _⟩
 hw := by unfold I64 z17; simp only; omega
theorem p17_few : PbFew p17 := by unfold PbFew p17; simp
theorem z17_few : PbFew z17 := by unfold PbFew z17; simp
theorem chk_p17 : chk p17.p = (0, 0) := by decide +kernel
theorem chk_z17 : chk z17.p = (18, 0) := by decide +kernel
theorem pbR_p17 : pbR p17.p = true := by unfold pbR; rw [chk_p17]; rfl
theorem plV_p17 : plV p17.p 9 = 1 := by unfold plV; rw [pbR_p17]; rfl
theorem rule_17 : ruleB 2 ⟨8, [1, 0], 0, 0, true, 0⟩ = true := by decide +kernel
theorem same_p17 (w : World) (A0 : Option Addr) (d0 : Nat) (A1 : Option Addr) (d1 : Nat) (A2 : Option Addr) (d2 : Nat) (A3 : Option Addr) (d3 : Nat) (A4 : Option Addr) (d4 : Nat) (A5 : Option Addr) (d5 : Nat) (A6 : Option Addr) (d6 : Nat) : Calls Tryz.prog 19 #[pbv p17, pbv ⟨[112], ⟨1, 5, 10⟩, [], [], [], [], [], [], [], 0, 0, 0, 0, A0, d0, A1, d1, A2, d2, A3, d3, A4, d4, A5, d5, A6, d6⟩] w (Did (.bool true) w) := by
 have h := p_SameG p17 ⟨[112], ⟨1, 5, 10⟩, [], [], [], [], [], [], [], 0, 0, 0, 0, A0, d0, A1, d1, A2, d2, A3, d3, A4, d4, A5, d5, A6, d6⟩ w _ _ _ _ _ _ _
  (fun X _ => (eq_R none A0 0 d0 [] [] (Nat.zero_le _) X (Rd.none_ _ _ _) (Rd.none_ _ _ _) (fun y hy => (nomatch hy)) (fun y hy => (nomatch hy))).mono fun _ _ h => CtRet.d17 (d := Classical.propDecidable _) h)
  (fun X _ => eq_W none A1 0 d1 [] [] ⟨Nat.zero_le _, fun l hl => (nomatch hl)⟩ X (rows2_nil _ _ _) (rows2_nil _ _ _))
  (fun X _ => (eq_P none A2 0 d2 [] [] (Nat.zero_le _) X (Rd.none_ _ _ _) (Rd.none_ _ _ _) (fun y hy => (nomatch hy)) (fun y hy => (nomatch hy))).mono fun _ _ h => CtRet.d17 (d := Classical.propDecidable _) h)
  (fun X _ => (eq_C none A3 0 d3 [] [] (Nat.zero_le _) X (Rd.none_ _ _ _) (Rd.none_ _ _ _) (fun y hy => (nomatch hy)) (fun y hy => (nomatch hy))).mono fun _ _ h => CtRet.d17 (d := Classical.propDecidable _) h)
  (fun X _ => (eq_K none A4 0 d4 [] [] (Nat.zero_le _) X (Rd.none_ _ _ _) (Rd.none_ _ _ _) (fun y hy => (nomatch hy)) (fun y hy => (nomatch hy))).mono fun _ _ h => CtRet.d17 (d := Classical.propDecidable _) h)
  (fun X _ => (eq_S none A5 0 d5 [] [] (Nat.zero_le _) X (Rd.none_ _ _ _) (Rd.none_ _ _ _) (fun y hy => (nomatch hy)) (fun y hy => (nomatch hy))).mono fun _ _ h => CtRet.d17 (d := Classical.propDecidable _) h)
  (fun X _ => (eq_U none A6 0 d6 [] [] (Nat.zero_le _) X (Rd.none_ _ _ _) (Rd.none_ _ _ _) (fun y hy => (nomatch hy)) (fun y hy => (nomatch hy))).mono fun _ _ h => CtRet.d17 (d := Classical.propDecidable _) h)
 refine h.mono fun e w1 h => ?_
 obtain ⟨h1, h2⟩ := h
 refine ⟨h1.trans ?_, h2⟩
 congr 2
 have e1 : ∀ (p : Prop) (d : Decidable p), p → @decide p d = true := fun p d h => by rw [decide_eq_true_iff]; exact h
 repeat rw [e1 _ _ rfl]
 rfl
set_option maxRecDepth 20000 in
set_option maxHeartbeats 8000000 in
theorem heads17 (w : World) : Calls Tryz.prog 11 #[] w (Did (.bool true) w) := by
 have HC := hid (fun X => show Calls Tryz.prog 12 #[pbv p17] X (Did (.tuple #[.int .i64 0, .int .i64 0]) X) from by have h := p_Check17 p17 X (p17_in X) p17_few; rw [chk_p17] at h; exact h)
 have HZ := hid (fun X => show Calls Tryz.prog 12 #[pbv z17] X (Did (.tuple #[.int .i64 18, .int .i64 0]) X) from by have h := p_Check17 z17 X (z17_in X) z17_few; rw [chk_z17] at h; exact h)
 have HR := hid (fun X => p_Right17 p17 X (p17_in X) p17_few)
 have HP := hid (fun X => p_Plans17 p17 9 (by unfold I64; omega) X (p17_in X) p17_few)
 have HY := hid (fun X => p_CopyG p17 X QN QN QN QN QN QN QN QN_ok QN_ok QN_ok QN_ok QN_ok QN_ok QN_ok (fun Y _ => cp0_0 Y) (fun Y _ => cp0_1 Y) (fun Y _ => cp0_2 Y) (fun Y _ => cp0_3 Y) (fun Y _ => cp0_4 Y) (fun Y _ => cp0_5 Y) (fun Y _ => cp0_6 Y))
 have HS := hid (fun A0 d0 A1 d1 A2 d2 A3 d3 A4 d4 A5 d5 A6 d6 X => same_p17 X A0 d0 A1 d1 A2 d2 A3 d3 A4 d4 A5 d5 A6 d6)
 have HU := hid (fun A c X (hc : 2 ≤ c ∧ c ≤ maxLen) h => p_Rule17 2 ⟨8, [1, 0], 0, 0, true, 0⟩ A c hc X h)
 have HF := hid (fun X => p_FindClass p17 [99] X (p17_in X))
 rw [pbR_p17] at HR
 rw [plV_p17] at HP
 rw [rule_17] at HU
 rw [show (fnd (p17.cl.map fun y => y.x.n) [99]) = -1 from rfl] at HF
 unfold p17 z17 at *
 unfold pbv at HC HZ HR HP HY HF
 obtain ⟨P, W, hP, hW, K, hb0⟩ := (Mem.nil w).one [.string ⟨#[112]⟩, .int .i64 1, .int .i64 5, .int .i64 10, .slice none 0 0, .slice none 0 0, .slice none 0 0, .slice none 0 0, .slice none 0 0, .slice none 0 0, .slice none 0 0, .int .i64 0, .int .i64 0, .int .i64 0, .int .i64 0] 34
 subst hW
 have KH := hid K.out
 go_enter Tryz.func11, Tryz.ntmps11
 have HK := hid (fun X (h : Mem w X [(P, [.string ⟨#[112]⟩, .int .i64 1, .int .i64 5, .int .i64 10, .slice none 0 0, .slice none 0 0, .slice none 0 0, .slice none 0 0, .slice none 0 0, .slice none 0 0, .slice none 0 0, .int .i64 0, .int .i64 0, .int .i64 0, .int .i64 0], 34)]) => show X.cell? ⟨P, 0, none⟩ = some (.string ⟨#[112]⟩) ∧ X.cell? ⟨P, 1, none⟩ = some (.int .i64 1) ∧ X.cell? ⟨P, 2, none⟩ = some (.int .i64 5) ∧ X.cell? ⟨P, 3, none⟩ = some (.int .i64 10) ∧ X.cell? ⟨P, 4, none⟩ = some (.slice none 0 0) ∧ X.cell? ⟨P, 5, none⟩ = some (.slice none 0 0) ∧ X.cell? ⟨P, 6, none⟩ = some (.slice none 0 0) ∧ X.cell? ⟨P, 7, none⟩ = some (.slice none 0 0) ∧ X.cell? ⟨P, 8, none⟩ = some (.slice none 0 0) ∧ X.cell? ⟨P, 9, none⟩ = some (.slice none 0 0) ∧ X.cell? ⟨P, 10, none⟩ = some (.slice none 0 0) ∧ X.cell? ⟨P, 11, none⟩ = some (.int .i64 0) ∧ X.cell? ⟨P, 12, none⟩ = some (.int .i64 0) ∧ X.cell? ⟨P, 13, none⟩ = some (.int .i64 0) ∧ X.cell? ⟨P, 14, none⟩ = some (.int .i64 0) from ⟨h.cell (b := P) (cs := [.string ⟨#[112]⟩, .int .i64 1, .int .i64 5, .int .i64 10, .slice none 0 0, .slice none 0 0, .slice none 0 0, .slice none 0 0, .slice none 0 0, .slice none 0 0, .slice none 0 0, .int .i64 0, .int .i64 0, .int .i64 0, .int .i64 0]) (t := 34) (by simp) (k := 0) rfl, h.cell (b := P) (cs := [.string ⟨#[112]⟩, .int .i64 1, .int .i64 5, .int .i64 10, .slice none 0 0, .slice none 0 0, .slice none 0 0, .slice none 0 0, .slice none 0 0, .slice none 0 0, .slice none 0 0, .int .i64 0, .int .i64 0, .int .i64 0, .int .i64 0]) (t := 34) (by simp) (k := 1) rfl, h.cell (b := P) (cs := [.string ⟨#[112]⟩, .int .i64 1, .int .i64 5, .int .i64 10, .slice none 0 0, .slice none 0 0, .slice none 0 0, .slice none 0 0, .slice none 0 0, .slice none 0 0, .slice none 0 0, .int .i64 0, .int .i64 0, .int .i64 0, .int .i64 0]) (t := 34) (by simp) (k := 2) rfl, h.cell (b := P) (cs := [.string ⟨#[112]⟩, .int .i64 1, .int .i64 5, .int .i64 10, .slice none 0 0, .slice none 0 0, .slice none 0 0, .slice none 0 0, .slice none 0 0, .slice none 0 0, .slice none 0 0, .int .i64 0, .int .i64 0, .int .i64 0, .int .i64 0]) (t := 34) (by simp) (k := 3) rfl, h.cell (b := P) (cs := [.string ⟨#[112]⟩, .int .i64 1, .int .i64 5, .int .i64 10, .slice none 0 0, .slice none 0 0, .slice none 0 0, .slice none 0 0, .slice none 0 0, .slice none 0 0, .slice none 0 0, .int .i64 0, .int .i64 0, .int .i64 0, .int .i64 0]) (t := 34) (by simp) (k := 4) rfl, h.cell (b := P) (cs := [.string ⟨#[112]⟩, .int .i64 1, .int .i64 5, .int .i64 10, .slice none 0 0, .slice none 0 0, .slice none 0 0, .slice none 0 0, .slice none 0 0, .slice none 0 0, .slice none 0 0, .int .i64 0, .int .i64 0, .int .i64 0, .int .i64 0]) (t := 34) (by simp) (k := 5) rfl, h.cell (b := P) (cs := [.string ⟨#[112]⟩, .int .i64 1, .int .i64 5, .int .i64 10, .slice none 0 0, .slice none 0 0, .slice none 0 0, .slice none 0 0, .slice none 0 0, .slice none 0 0, .slice none 0 0, .int .i64 0, .int .i64 0, .int .i64 0, .int .i64 0]) (t := 34) (by simp) (k := 6) rfl, h.cell (b := P) (cs := [.string ⟨#[112]⟩, .int .i64 1, .int .i64 5, .int .i64 10, .slice none 0 0, .slice none 0 0, .slice none 0 0, .slice none 0 0, .slice none 0 0, .slice none 0 0, .slice none 0 0, .int .i64 0, .int .i64 0, .int .i64 0, .int .i64 0]) (t := 34) (by simp) (k := 7) rfl, h.cell (b := P) (cs := [.string ⟨#[112]⟩, .int .i64 1, .int .i64 5, .int .i64 10, .slice none 0 0, .slice none 0 0, .slice none 0 0, .slice none 0 0, .slice none 0 0, .slice none 0 0, .slice none 0 0, .int .i64 0, .int .i64 0, .int .i64 0, .int .i64 0]) (t := 34) (by simp) (k := 8) rfl, h.cell (b := P) (cs := [.string ⟨#[112]⟩, .int .i64 1, .int .i64 5, .int .i64 10, .slice none 0 0, .slice none 0 0, .slice none 0 0, .slice none 0 0, .slice none 0 0, .slice none 0 0, .slice none 0 0, .int .i64 0, .int .i64 0, .int .i64 0, .int .i64 0]) (t := 34) (by simp) (k := 9) rfl, h.cell (b := P) (cs := [.string ⟨#[112]⟩, .int .i64 1, .int .i64 5, .int .i64 10, .slice none 0 0, .slice none 0 0, .slice none 0 0, .slice none 0 0, .slice none 0 0, .slice none 0 0, .slice none 0 0, .int .i64 0, .int .i64 0, .int .i64 0, .int .i64 0]) (t := 34) (by simp) (k := 10) rfl, h.cell (b := P) (cs := [.string ⟨#[112]⟩, .int .i64 1, .int .i64 5, .int .i64 10, .slice none 0 0, .slice none 0 0, .slice none 0 0, .slice none 0 0, .slice none 0 0, .slice none 0 0, .slice none 0 0, .int .i64 0, .int .i64 0, .int .i64 0, .int .i64 0]) (t := 34) (by simp) (k := 11) rfl, h.cell (b := P) (cs := [.string ⟨#[112]⟩, .int .i64 1, .int .i64 5, .int .i64 10, .slice none 0 0, .slice none 0 0, .slice none 0 0, .slice none 0 0, .slice none 0 0, .slice none 0 0, .slice none 0 0, .int .i64 0, .int .i64 0, .int .i64 0, .int .i64 0]) (t := 34) (by simp) (k := 12) rfl, h.cell (b := P) (cs := [.string ⟨#[112]⟩, .int .i64 1, .int .i64 5, .int .i64 10, .slice none 0 0, .slice none 0 0, .slice none 0 0, .slice none 0 0, .slice none 0 0, .slice none 0 0, .slice none 0 0, .int .i64 0, .int .i64 0, .int .i64 0, .int .i64 0]) (t := 34) (by simp) (k := 13) rfl, h.cell (b := P) (cs := [.string ⟨#[112]⟩, .int .i64 1, .int .i64 5, .int .i64 10, .slice none 0 0, .slice none 0 0, .slice none 0 0, .slice none 0 0, .slice none 0 0, .slice none 0 0, .slice none 0 0, .int .i64 0, .int .i64 0, .int .i64 0, .int .i64 0]) (t := 34) (by simp) (k := 14) rfl⟩)
 obtain ⟨e0, e1, e2, e3, e4, e5, e6, e7, e8, e9, e10, e11, e12, e13, e14⟩ := HK.out _ KH.out
 clear K hb0
 go_wp2_with fail
 refine (HC.out _).mono ?_
 rintro e w1 ⟨rfl, b1⟩
 have K1 := hid (KH.out.next b1)
 clear e0 e1 e2 e3 e4 e5 e6 e7 e8 e9 e10 e11 e12 e13 e14 b1 KH
 go_wp2_with fail
 refine (HZ.out _).mono ?_
 rintro e w2 ⟨rfl, b2⟩
 have K2 := hid (K1.out.next b2)
 clear b2 K1
 go_upto_region 4 with fail
 refine wp_region_held_drew (S := fun X => Mem w X [(P, [.string ⟨#[112]⟩, .int .i64 1, .int .i64 5, .int .i64 10, .slice none 0 0, .slice none 0 0, .slice none 0 0, .slice none 0 0, .slice none 0 0, .slice none 0 0, .slice none 0 0, .int .i64 0, .int .i64 0, .int .i64 0, .int .i64 0], 34)]) (by kernel_rfl) K2.out.drew (fun hHeld => ?_)
 refine tkD 0 18 (.int .i64 0) rfl rfl hHeld ?_
 simp only [pt, List.set]
 refine tkD 1 19 (.bool true) rfl rfl hHeld ?_
 simp only [pt, List.set]
 refine tkD 2 20 (.bool true) rfl rfl hHeld ?_
 simp only [pt, List.set]
 refine tkD 3 21 (.int .i64 0) rfl rfl hHeld ?_
 simp only [pt, List.set]
 refine tkD 4 22 (.bool true) rfl rfl hHeld ?_
 simp only [pt, List.set]
 refine tkD 5 23 (.bool true) rfl rfl hHeld ?_
 simp only [pt, List.set]
 refine tkD 6 24 (.bool true) rfl rfl hHeld ?_
 simp only [pt, List.set]
 refine tkD 7 25 (.int .i64 18) rfl rfl hHeld ?_
 simp only [pt, List.set]
 refine tkD 8 26 (.bool true) rfl rfl hHeld ?_
 simp only [pt, List.set]
 refine tkD 9 27 (.bool true) rfl rfl hHeld ?_
 simp only [pt, List.set]
 refine tkD 10 28 (.bool true) rfl rfl hHeld ?_
 simp only [pt, List.set]
 refine tkH 11 29 (.agg #[.string ⟨#[112]⟩, .int .i64 1, .int .i64 5, .int .i64 10, .slice none 0 0, .slice none 0 0, .slice none 0 0, .slice none 0 0, .slice none 0 0, .slice none 0 0, .slice none 0 0, .int .i64 0, .int .i64 0, .int .i64 0, .int .i64 0]) rfl rfl (fun X hX => by obtain ⟨e0, e1, e2, e3, e4, e5, e6, e7, e8, e9, e10, e11, e12, e13, e14⟩ := HK.out _ hX; clear hX; go_simp) hHeld ?_
 simp only [pt, List.set]
 have K3 := hid K2.out.drew
 obtain ⟨U, hU⟩ : ∃ U, w2.drew = U := ⟨_, rfl⟩
 rw [hU] at K3 hHeld ⊢
 clear hU K2
 refine wpAnyH_ready (rs := [12]) (by kernel_rfl) (by simp) ?_
 refine AllReadyH.cons rfl (fun KK hK => ?_) AllReadyH.nil
 simp only [List.getElem_toArray, List.getElem_cons_succ, List.getElem_cons_zero]
 go_simp
 refine (HR.out _).mono ?_
 rintro e y3 ⟨rfl, z3⟩
 have K4 := hid (K3.out.next z3)
 clear z3 K3
 refine hK.out _ _ K4.out (fun hHeld => ?_)
 clear hK KK
 try simp only [pt, List.set]
 refine tkD 13 31 (.bool true) rfl rfl hHeld ?_
 simp only [pt, List.set]
 refine tkD 14 32 (.bool true) rfl rfl hHeld ?_
 simp only [pt, List.set]
 refine tkH 15 33 (.agg #[.string ⟨#[112]⟩, .int .i64 1, .int .i64 5, .int .i64 10, .slice none 0 0, .slice none 0 0, .slice none 0 0, .slice none 0 0, .slice none 0 0, .slice none 0 0, .slice none 0 0, .int .i64 0, .int .i64 0, .int .i64 0, .int .i64 0]) rfl rfl (fun X hX => by obtain ⟨e0, e1, e2, e3, e4, e5, e6, e7, e8, e9, e10, e11, e12, e13, e14⟩ := HK.out _ hX; clear hX; go_simp) hHeld ?_
 simp only [pt, List.set]
 refine wpAnyH_ready (rs := [16]) (by kernel_rfl) (by simp) ?_
 refine AllReadyH.cons rfl (fun KK hK => ?_) AllReadyH.nil
 simp only [List.getElem_toArray, List.getElem_cons_succ, List.getElem_cons_zero]
 go_simp
 refine (HP.out _).mono ?_
 rintro e y4 ⟨rfl, z4⟩
 have K5 := hid (K4.out.next z4)
 clear z4 K4
 refine hK.out _ _ K5.out (fun hHeld => ?_)
 clear hK KK
 try simp only [pt, List.set]
 refine tkD 17 35 (.bool true) rfl rfl hHeld ?_
 simp only [pt, List.set]
 refine tkD 18 36 (.bool true) rfl rfl hHeld ?_
 simp only [pt, List.set]
 refine tkD 19 37 (.bool true) rfl rfl hHeld ?_
 simp only [pt, List.set]
 refine tkH 20 38 (.agg #[.string ⟨#[112]⟩, .int .i64 1, .int .i64 5, .int .i64 10, .slice none 0 0, .slice none 0 0, .slice none 0 0, .slice none 0 0, .slice none 0 0, .slice none 0 0, .slice none 0 0, .int .i64 0, .int .i64 0, .int .i64 0, .int .i64 0]) rfl rfl (fun X hX => by obtain ⟨e0, e1, e2, e3, e4, e5, e6, e7, e8, e9, e10, e11, e12, e13, e14⟩ := HK.out _ hX; clear hX; go_simp) hHeld ?_
 simp only [pt, List.set]
 refine tkH 21 39 (.agg #[.string ⟨#[112]⟩, .int .i64 1, .int .i64 5, .int .i64 10, .slice none 0 0, .slice none 0 0, .slice none 0 0, .slice none 0 0, .slice none 0 0, .slice none 0 0, .slice none 0 0, .int .i64 0, .int .i64 0, .int .i64 0, .int .i64 0]) rfl rfl (fun X hX => by obtain ⟨e0, e1, e2, e3, e4, e5, e6, e7, e8, e9, e10, e11, e12, e13, e14⟩ := HK.out _ hX; clear hX; go_simp) hHeld ?_
 simp only [pt, List.set]
 refine wpAnyH_ready (rs := [22]) (by kernel_rfl) (by simp) ?_
 refine AllReadyH.cons rfl (fun KK hK => ?_) AllReadyH.nil
 simp only [List.getElem_toArray, List.getElem_cons_succ, List.getElem_cons_zero]
 go_simp
 refine (HY.out _).mono ?_
 rintro e y5 ⟨A0, n0, d0, A1, n1, d1, A2, n2, d2, A3, n3, d3, A4, n4, d4, A5, n5, d5, A6, n6, d6, rfl, h0, h1, h2, h3, h4, h5, h6, z5⟩
 obtain rfl : n0 = 0 := h0
 obtain rfl : n1 = 0 := h1
 obtain rfl : n2 = 0 := h2
 obtain rfl : n3 = 0 := h3
 obtain rfl : n4 = 0 := h4
 obtain rfl : n5 = 0 := h5
 obtain rfl : n6 = 0 := h6
 have K6 := hid (K5.out.next z5)
 clear z5 K5
 refine hK.out _ _ K6.out (fun hHeld => ?_)
 clear hK KK
 try simp only [pt, List.set]
 refine wpAnyH_ready (rs := [23]) (by kernel_rfl) (by simp) ?_
 refine AllReadyH.cons rfl (fun KK hK => ?_) AllReadyH.nil
 simp only [List.getElem_toArray, List.getElem_cons_succ, List.getElem_cons_zero]
 go_simp
 refine (HS.out A0 d0 A1 d1 A2 d2 A3 d3 A4 d4 A5 d5 A6 d6 _).mono ?_
 rintro e y6 ⟨rfl, z6⟩
 have K7 := hid (K6.out.next z6)
 clear z6 K6
 refine hK.out _ _ K7.out (fun hHeld => ?_)
 clear hK KK
 try simp only [pt, List.set]
 refine tkD 24 42 (.bool true) rfl rfl hHeld ?_
 simp only [pt, List.set]
 refine tkD 25 43 (.bool true) rfl rfl hHeld ?_
 simp only [pt, List.set]
 obtain ⟨D, V0, hD, hV0, K8, z8⟩ := K7.out.one [.int .i64 1, .int .i64 0] 3
 refine wpAnyH_ready (rs := [26]) (by kernel_rfl) (by simp) ?_
 refine AllReadyH.cons rfl (fun KK hK => ?_) AllReadyH.nil
 simp only [List.getElem_toArray, List.getElem_cons_succ, List.getElem_cons_zero]
 go_simp
 have KS := hid (K8.out.sub (l' := [(P, [.string ⟨#[112]⟩, .int .i64 1, .int .i64 5, .int .i64 10, .slice none 0 0, .slice none 0 0, .slice none 0 0, .slice none 0 0, .slice none 0 0, .slice none 0 0, .slice none 0 0, .int .i64 0, .int .i64 0, .int .i64 0, .int .i64 0], 34)]) (by simp))
 refine hK.out _ _ KS.out (fun hHeld => ?_)
 clear hK KK
 try simp only [pt, List.set]
 have hOD := hid (ob_its (L := [1, 0]) (K8.out.at_ (b := D) (cs := [.int .i64 1, .int .i64 0]) (t := 3) (by simp)))
 clear hV0 hD K8 z8 K7
 refine wpAnyH_ready (rs := [27]) (by kernel_rfl) (by simp) ?_
 refine AllReadyH.cons rfl (fun KK hK => ?_) AllReadyH.nil
 simp only [List.getElem_toArray, List.getElem_cons_succ, List.getElem_cons_zero]
 go_simp
 refine hK.out _ _ KS.out (fun hHeld => ?_)
 clear hK KK
 try simp only [pt, List.set]
 have K9 := KS
 refine wpAnyH_ready (rs := [28]) (by kernel_rfl) (by simp) ?_
 refine AllReadyH.cons rfl (fun KK hK => ?_) AllReadyH.nil
 simp only [List.getElem_toArray, List.getElem_cons_succ, List.getElem_cons_zero]
 go_simp
 refine (HU.out (some ⟨D, 0, none⟩) 2 _ (by unfold maxLen; omega) hOD.out).mono ?_
 rintro e y9 ⟨rfl, z9⟩
 have K10 := hid (KS.out.next z9)
 clear z9 KS K9 hOD
 refine hK.out _ _ K10.out (fun hHeld => ?_)
 clear hK KK
 try simp only [pt, List.set]
 refine tkD 29 47 (.bool true) rfl rfl hHeld ?_
 simp only [pt, List.set]
 refine tkD 30 48 (.bool true) rfl rfl hHeld ?_
 simp only [pt, List.set]
 refine tkH 31 49 (.agg #[.string ⟨#[112]⟩, .int .i64 1, .int .i64 5, .int .i64 10, .slice none 0 0, .slice none 0 0, .slice none 0 0, .slice none 0 0, .slice none 0 0, .slice none 0 0, .slice none 0 0, .int .i64 0, .int .i64 0, .int .i64 0, .int .i64 0]) rfl rfl (fun X hX => by obtain ⟨e0, e1, e2, e3, e4, e5, e6, e7, e8, e9, e10, e11, e12, e13, e14⟩ := HK.out _ hX; clear hX; go_simp) hHeld ?_
 simp only [pt, List.set]
 refine wpAnyH_ready (rs := [32]) (by kernel_rfl) (by simp) ?_
 refine AllReadyH.cons rfl (fun KK hK => ?_) AllReadyH.nil
 simp only [List.getElem_toArray, List.getElem_cons_succ, List.getElem_cons_zero]
 go_simp
 refine (HF.out _).mono ?_
 rintro e y10 ⟨rfl, z10⟩
 have K11 := hid (K10.out.next z10)
 clear z10 K10
 refine hK.out _ _ K11.out (fun hHeld => ?_)
 clear hK KK
 try simp only [pt, List.set]
 refine tkD 33 51 (.bool true) rfl rfl hHeld ?_
 simp only [pt, List.set]
 refine tkD 34 52 (.bool true) rfl rfl hHeld ?_
 simp only [pt, List.set]
 refine wpAnyH_ready (rs := [35]) (by kernel_rfl) (by simp) ?_
 refine AllReadyH.cons rfl (fun KK hK => ?_) AllReadyH.nil
 simp only [List.getElem_toArray, List.getElem_cons_succ, List.getElem_cons_zero]
 go_simp
 refine hK.out _ _ K11.out (fun hHeld => ?_)
 clear hK KK
 try simp only [pt, List.set]
 refine wpAnyH_done (by kernel_rfl) ?_ _
 clear hHeld
 go_wp2_with fail
 go_ret
 exact Did.mk rfl K11.out.2
end Go.Proofs.YtgmgccepmalahaaGreat
namespace Go.Proofs.YtgmgccepmalahaaGreat
open Go.RowKit
open Whn (Gr Wh)
end Go.Proofs.YtgmgccepmalahaaGreat
namespace Go.Proofs.YtgmgccepmalahaaGreat
open Go.RowKit
open Whn (Gr Wh)
theorem own_abv {w w' : World} {b : Nat} {e : TypeId} {size : Nat} {v : Value} {n : Nat} {xs : List Value} (h : w.ownsRow b e size v n xs) (ha : Abv b w w') : w'.ownsRow b e size v n xs :=
 ⟨h.1, h.2.imp id fun ⟨g, cap, cur, h1, h2, h3, h4⟩ => ⟨g, cap, cur, h1, h2, (ha.2 g h2 (Array.getElem?_eq_some_iff.1 h3).1).trans h3, h4⟩⟩
end Go.Proofs.YtgmgccepmalahaaGreat
namespace Go.Proofs.YtgmgccepmalahaaGreat
open Go.RowKit
section
variable {P : Program} {ops : Array Oper} {Q : Exit → Act → World → Prop} {md : Region.Mode} {S : Array Bool → World → Prop}
def wpAnyL (P : Program) (md : Region.Mode) (ops : Array Oper) (Q : Exit → Act → World → Prop) (S : Array Bool → World → Prop) : Nat → Array Bool → Act → World → Prop
 | 0, listed, a, w => Region.ready md ops listed = [] ∧ Q .normal a w
 | fuel + 1, listed, a, w =>
  (Region.ready md ops listed = [] → Q .normal a w) ∧
  ∀ i ∈ Region.ready md ops listed, wpOp P ops Q i (fun a' w' => S (listed.setIfInBounds i true) w' ∧ wpAnyL P md ops Q S fuel (listed.setIfInBounds i true) a' w') a w
theorem wpAny_of_L : ∀ (fuel : Nat) (listed : Array Bool) (a : Act) (w : World), wpAnyL P md ops Q S fuel listed a w → wpAny P md ops Q fuel listed a w
 | 0, _, _, _, h => h
 | fuel + 1, _, _, _, h => ⟨h.1, fun i hi => wpOp_mono (fun a' w' h' => wpAny_of_L fuel _ a' w' h'.2) (h.2 i hi)⟩
theorem getD_set17 {l : Array Bool} {j k : Nat} (h : j ≠ k) : (l.setIfInBounds j true).getD k true = l.getD k true := by
 rw [Array.getD_eq_getD_getElem?, Array.getD_eq_getD_getElem?, Array.getElem?_setIfInBounds_ne h]
theorem wpAnyL_first {i : Nat} {oi : Oper} {v : Value} {T : World → Prop} {Pd : Array Bool → Prop} (hi : ops[i]? = some oi) (hsel : ∀ (j : Nat) (o : Oper) cs b, ops[j]? = some o → o.op ≠ .select cs b)
    (hQ : ∀ c a w, Q (.panic c) (a.put oi.dst v) w → Q (.panic c) a w) (hT : ∀ l w, Pd l → S l w → T w) (hS' : ∀ l w, S (l.setIfInBounds i true) w ↔ S l w)
    (hPd : ∀ l j oj, Pd l → ops[j]? = some oj → j ≠ i → (∀ e ∈ oj.after, Region.binds md e = true → e.on ≠ i) → Pd (l.setIfInBounds j true)) :
    ∀ (fuel : Nat) (listed : Array Bool) (a : Act) (w : World),
     (∀ j oj, ops[j]? = some oj → j ≠ i → listed.getD j true = false → (∀ e ∈ oj.after, Region.binds md e = true → e.on ≠ i) → oi.apart ops oj = true) →
     i ∈ Region.ready md ops listed → YieldsIf P ops T oi v a → Pd listed → S listed w →
     wpAnyL P md ops Q S fuel (listed.setIfInBounds i true) (a.put oi.dst v) w → wpAnyL P md ops Q S (fuel + 1) listed a w := by
 intro fuel
 induction fuel with
 | zero =>
  intro listed a w _ hr hy hl hS H
  refine ⟨fun h => (by rw [h] at hr; cases hr), fun j hj => ?_⟩
  by_cases hji : j = i
  · subst hji
    exact hy.wpOp hi (hT _ _ hl hS) ⟨(hS' _ _).2 hS, H⟩
  · have := ready_mono hj hji
    rw [H.1] at this
    cases this
 | succ fuel ih =>
  intro listed a w hfree hr hy hl hS H
  refine ⟨fun h => (by rw [h] at hr; cases hr), fun j hj => ?_⟩
  by_cases hji : j = i
  · subst hji
    exact hy.wpOp hi (hT _ _ hl hS) ⟨(hS' _ _).2 hS, H⟩
  · have h1 := H.2 j (ready_mono hj hji)
    obtain ⟨hjun, oj, hoj, hall⟩ := mem_ready.1 hj
    have hnot : ∀ e ∈ oj.after, Region.binds md e = true → e.on ≠ i := fun e he hb heq => by
     have h1 := hall e he hb
     have h0 := (mem_ready.1 hr).1
     rw [heq] at h1
     rcases Nat.lt_or_ge i listed.size with h' | h'
     · simp [h'] at h0 h1; rw [h0] at h1; cases h1
     · simp [Array.getElem?_eq_none h'] at h1
    have h2 := wpOp_putIf hoj (hfree j oj hoj hji hjun hnot) (fun cs b => hsel i oi cs b hi) (fun cs b => hsel j oj cs b hoj) hQ hy h1
    have hfree' : ∀ k ok, ops[k]? = some ok → k ≠ i → (listed.setIfInBounds j true).getD k true = false →
        (∀ e ∈ ok.after, Region.binds md e = true → e.on ≠ i) → oi.apart ops ok = true := fun k ok hk hki hun hno => by
     refine hfree k ok hk hki ?_ hno
     by_cases hjk : j = k
     · subst hjk; exact hjun
     · rw [getD_set17 hjk] at hun; exact hun
    refine wpOp_mono (fun a' w' h3 => ?_) h2
    have h4 := h3.2
    rw [Array.setIfInBounds_comm _ _ (Ne.symm hji)] at h4
    have h5 := (hS' _ _).1 h4.1
    exact ⟨h5, ih (listed.setIfInBounds j true) a' w' hfree' (ready_mono hr (Ne.symm hji)) h3.1 (hPd _ _ _ hl hoj hji hnot) h5 h4.2⟩
def SL (S0 : World → Prop) (L : List (Nat × (World → Prop))) (l : Array Bool) (w : World) : Prop := S0 w ∧ ∀ q ∈ L, l.getD q.1 true = false → q.2 w
def waitsB (md : Region.Mode) (ops : Array Oper) (n i : Nat) : Bool := match ops[n]? with | some o => o.after.any fun e => Region.binds md e && Nat.beq e.on i | none => false
theorem SL.set {S0 : World → Prop} {L : List (Nat × (World → Prop))} {i : Nat} (hL : (L.map (·.1)).contains i = false) (l : Array Bool) (w : World) : SL S0 L (l.setIfInBounds i true) w ↔ SL S0 L l w := by
 have hne : ∀ q ∈ L, i ≠ q.1 := fun q hq e => by
  have : (L.map (·.1)).contains i = true := by
   rw [List.contains_iff_mem]
   exact List.mem_map.2 ⟨q, hq, e.symm⟩
  rw [hL] at this
  cases this
 exact ⟨fun h => ⟨h.1, fun q hq hl => h.2 q hq (by rw [getD_set17 (hne q hq)]; exact hl)⟩, fun h => ⟨h.1, fun q hq hl => h.2 q hq (by rw [getD_set17 (hne q hq)] at hl; exact hl)⟩⟩
section
variable {S0 : World → Prop} {L : List (Nat × (World → Prop))}
theorem takeL (i d : Nat) (v : Value) {oi : Oper} {fuel : Nat} {listed : Array Bool} {a : Act} {w : World} (hi : ops[i]? = some oi) (hd : oi.dst = some d)
    (hs : Region.noSelect ops = true) (hf : Region.free md ops listed i = true) (hr : (Region.ready md ops listed).contains i = true)
    (hL : (L.map (·.1)).contains i = false)
    (hQ : ∀ c a w, Q (.panic c) (a.put (some d) v) w → Q (.panic c) a w) (hw : Region.wanted oi (yielded ops a.tmps) = true) (he : ∀ w, S0 w → (execOp a.eval oi).run P w = .ok (.value v) w) (hS : SL S0 L listed w)
    (h : wpAnyL P md ops Q (SL S0 L) fuel (listed.setIfInBounds i true) (a.put (some d) v) w) : wpAnyL P md ops Q (SL S0 L) (fuel + 1) listed a w :=
 wpAnyL_first (T := S0) (Pd := fun _ => True) hi (Region.noSelect_spec hs) (by rw [hd]; exact hQ) (fun _ _ _ h => h.1) (SL.set hL) (fun _ _ _ _ _ _ _ => trivial) fuel listed a w (Region.free_spec hi hf) (by simpa using hr) (.inl ⟨hw, he⟩) trivial hS (by rw [hd]; exact h)
theorem takeN (i d : Nat) (v : Value) (n : Nat) (T : World → Prop) {oi : Oper} {fuel : Nat} {listed : Array Bool} {a : Act} {w : World} (hi : ops[i]? = some oi) (hd : oi.dst = some d)
    (hs : Region.noSelect ops = true) (hf : Region.free md ops listed i = true) (hr : (Region.ready md ops listed).contains i = true)
    (hL : (L.map (·.1)).contains i = false) (hn : (n, T) ∈ L) (hwt : waitsB md ops n i = true) (hl : listed.getD n true = false)
    (hQ : ∀ c a w, Q (.panic c) (a.put (some d) v) w → Q (.panic c) a w) (hw : Region.wanted oi (yielded ops a.tmps) = true) (he : ∀ w, S0 w → T w → (execOp a.eval oi).run P w = .ok (.value v) w) (hS : SL S0 L listed w)
    (h : wpAnyL P md ops Q (SL S0 L) fuel (listed.setIfInBounds i true) (a.put (some d) v) w) : wpAnyL P md ops Q (SL S0 L) (fuel + 1) listed a w :=
 wpAnyL_first (T := fun w => S0 w ∧ T w) (Pd := fun l => l.getD n true = false) hi (Region.noSelect_spec hs) (by rw [hd]; exact hQ) (fun _ _ hp h => ⟨h.1, h.2 _ hn hp⟩) (SL.set hL)
  (fun l j oj hp ho _ hno => by
   have hjn : j ≠ n := fun e => by
    subst e
    unfold waitsB at hwt
    rw [ho] at hwt
    simp only [Array.any_eq_true', Bool.and_eq_true, Nat.beq_eq] at hwt
    obtain ⟨e, he, h1, h2⟩ := hwt
    exact hno e he h1 h2
   show (l.setIfInBounds j true).getD n true = false
   rw [getD_set17 hjn]
   exact hp) fuel listed a w (Region.free_spec hi hf) (by simpa using hr) (.inl ⟨hw, fun w h => he w h.1 h.2⟩) hl hS (by rw [hd]; exact h)
end
def AllReadyL (P : Program) (md : Region.Mode) (ops : Array Oper) (Q : Exit → Act → World → Prop) (S : Array Bool → World → Prop) (fuel : Nat) (listed : Array Bool) (a : Act) (w : World) (rs : List Nat) : Prop :=
 ∀ i ∈ rs, wpOp P ops Q i (fun a' w' => S (listed.setIfInBounds i true) w' ∧ wpAnyL P md ops Q S fuel (listed.setIfInBounds i true) a' w') a w
theorem AllReadyL.nil {fuel : Nat} {listed : Array Bool} {a : Act} {w : World} : AllReadyL P md ops Q S fuel listed a w [] := fun _ h => by cases h
theorem AllReadyL.cons {fuel : Nat} {listed : Array Bool} {a : Act} {w : World} {i : Nat} {o : Oper} {rs : List Nat} (ho : ops[i]? = some o)
    (h : ∀ K' : Act → World → Prop, Shut (∀ a w, S (listed.setIfInBounds i true) w → (S (listed.setIfInBounds i true) w → wpAnyL P md ops Q S fuel (listed.setIfInBounds i true) a w) → K' a w) → if Region.wanted o (yielded ops a.tmps) = true then Oper.wp P o a w K' Q else K' (a.put o.dst undef) w)
    (hs : AllReadyL P md ops Q S fuel listed a w rs) : AllReadyL P md ops Q S fuel listed a w (i :: rs) := fun j hj => by
 rcases List.mem_cons.1 hj with rfl | hj
 · exact wpOp_step ho (fun K' hK => h K' (fun a w hS hW => hK a w ⟨hS, hW hS⟩))
 · exact hs j hj
theorem wpAnyL_ready {rs : List Nat} {fuel : Nat} {listed : Array Bool} {a : Act} {w : World} (hr : Region.ready md ops listed = rs) (hne : rs ≠ [])
    (h : AllReadyL P md ops Q S fuel listed a w rs) : wpAnyL P md ops Q S (fuel + 1) listed a w := ⟨fun h0 => absurd (hr ▸ h0) hne, hr ▸ h⟩
theorem wpAnyL_done {listed : Array Bool} {a : Act} {w : World} (hr : Region.ready md ops listed = []) (h : Q .normal a w) : ∀ fuel, wpAnyL P md ops Q S fuel listed a w
 | 0 => ⟨hr, h⟩
 | _ + 1 => ⟨fun _ => h, by rw [hr]; simp⟩
theorem wp_region_L {id : Nat} {a : Act} {w : World} (hm : P.follows .mixedOrders = true) (hS : S (Array.replicate ops.size false) w.drew)
    (h : S (Array.replicate ops.size false) w.drew → wpAnyL P .any ops Q S ops.size (Array.replicate ops.size false) a w.drew) : (Code.region id ops true).wp P Q a w :=
 wp_region_any hm (wpAny_of_L _ _ _ _ (h hS))
end
end Go.Proofs.YtgmgccepmalahaaGreat
