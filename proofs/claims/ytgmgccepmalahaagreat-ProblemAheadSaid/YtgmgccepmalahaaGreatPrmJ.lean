/- Problem's own Plans. -/
import Derived.Test.YtgmgccepmalahaaGreatPrmF
import Derived.Test.YtgmgccepmalahaaGreatPqN
import Derived.Test.YtgmgccepmalahaaGreatPqK
namespace Go.Proofs.YtgmgccepmalahaaGreat
open Go.RowKit
open Whn (Gr Wh)

theorem plF_stay {l : List Cl} {most : Int} (hm : 1 ≤ most) (hk : ∀ (i : Nat) (y : Cl), l[i]? = some y → 1 ≤ (seats y).length) {i : Nat} (h : plF l most i = most) : ∀ j, i ≤ j → j ≤ l.length → plF l most j = most := by
  intro j
  induction j with
  | zero => intro h1 _; obtain rfl : i = 0 := by omega
            exact h
  | succ j ih =>
    intro h1 h2
    rcases Nat.lt_or_ge j i with h3 | h3
    · obtain rfl : i = j + 1 := by omega
      exact h
    · have ihj := ih h3 (by omega)
      obtain ⟨y, hy⟩ : ∃ y, l[j]? = some y := ⟨_, List.getElem?_eq_getElem (by omega)⟩
      have hkk := hk j y hy
      have e : plF l most (j + 1) = (if most / (((seats y).length : Nat) : Int) < plF l most j then most else plF l most j * (((seats y).length : Nat) : Int)) := by
        rw [plF, List.getD_eq_getElem?_getD, hy]
        rfl
      rw [e, ihj]
      by_cases hc : most / (((seats y).length : Nat) : Int) < most
      · rw [if_pos hc]
      · rw [if_neg hc]
        have h1 : (seats y).length = 1 := by
          rcases Nat.lt_or_ge 1 (seats y).length with h4 | h4
          · exfalso
            apply hc
            exact Int.ediv_lt_of_lt_mul (by omega) (by
              have : most * 2 ≤ most * (((seats y).length : Nat) : Int) := Int.mul_le_mul_of_nonneg_left (by omega) (by omega)
              omega)
          · omega
        rw [h1]; simp
set_option maxRecDepth 20000 in
set_option maxHeartbeats 8000000 in
theorem p_Plans17 (x : PbA) (most : Int) (hmost : I64 most) (w : World) (h : PbIn w x) (hf : PbFew x) : Calls Tryz.prog 23 #[pbv x, .int .i64 most] w (Did (.int .i64 (plV x.p most)) w) := by
  have HR := hid (fun X (hb : Below w.heap.size w X) => p_Right17 x X (h.next hb) hf)
  have Hr := hid (show plV x.p most = if pbR x.p = false ∨ most < 1 then 0 else plF x.p.cl most x.p.cl.length from rfl)
  have hpl : x.p.cl.length = x.cl.length := List.length_map ..
  unfold I64 at hmost
  have hfl := hf.2.2.2.1
  have HI := hid h
  generalize plV x.p most = rr at *
  obtain ⟨G, W, hG, hW, K, hb0⟩ := (Mem.nil w).one (pbc x) 34
  have Hcell := hid (fun X (h : Mem w X [(G, pbc x, 34)]) => h.pb (B := G) (x := x) (t := 34) (by simp))
  obtain ⟨p0, p1, p2, p3, p4, p5, p6, p7, p8, p9, p10, p11, p12, p13, p14⟩ := Hcell.out _ K.out
  by_cases hm : most < 1
  · have Hd := hid (show rr = 0 from by rw [Hr.out, if_pos (.inr hm)])
    clear h hb0 hf Hr HR
    go_enter Tryz.func23, Tryz.ntmps23
    go_wp2_with fail
    go_ret
    exact Did.mk (by rw [Hd.out]; rfl) K.out.2
  · have m1 : ¬ most < 1 := hm
    by_cases hR : pbR x.p = true
    · have Hd := hid (show rr = plF x.p.cl most x.cl.length from by rw [Hr.out, if_neg (fun h => h.elim (fun h => by rw [hR] at h; cases h) hm), hpl])
      have Hk := hid (fun i y (hy : x.cl[i]? = some y) => seats_pos (cl_right hR (i := i) (y := y.x) (by show (x.cl.map (·.x))[i]? = _; rw [List.getElem?_map, hy]; rfl)))
      have Hsm := hid (fun i y (hy : x.cl[i]? = some y) => cl_small (cl_right hR (i := i) (y := y.x) (by show (x.cl.map (·.x))[i]? = _; rw [List.getElem?_map, hy]; rfl)))
      have hkl : ∀ (i : Nat) (y : Cl), x.p.cl[i]? = some y → 1 ≤ (seats y).length := fun i y hy => by
        have hy' : (x.cl.map (·.x))[i]? = some y := hy
        rw [List.getElem?_map] at hy'
        cases hq : x.cl[i]? with
        | none => rw [hq] at hy'; cases hy'
        | some z =>
          rw [hq] at hy'
          obtain rfl := Option.some.inj hy'
          exact (Hk.out i z hq).1
      have Hbn := hid (plF_bnd (l := x.p.cl) (most := most) (by omega) hkl)
      have Hsy := hid (fun i => plF_stay (l := x.p.cl) (most := most) (by omega) hkl (i := i))
      rw [hpl] at Hbn Hsy
      have Hst := hid (fun i y (hy : x.cl[i]? = some y) => show plF x.p.cl most (i + 1) = (if most / (((seats y.x).length : Nat) : Int) < plF x.p.cl most i then most else plF x.p.cl most i * (((seats y.x).length : Nat) : Int)) from by
        rw [plF, List.getD_eq_getElem?_getD, show x.p.cl[i]? = some y.x from by show (x.cl.map (·.x))[i]? = _; rw [List.getElem?_map, hy]; rfl]
        rfl)
      have Hz := hid (show plF x.p.cl most 0 = 1 from rfl)
      generalize plF x.p.cl most = F at *
      rw [hR] at HR
      clear h hb0 hf Hr hR hpl hkl
      go_enter Tryz.func23, Tryz.ntmps23
      go_wp2_with fail
      refine (HR.out _ K.out.2).mono ?_
      rintro e Y ⟨rfl, bz⟩
      have K1 := hid (K.out.next bz)
      clear p0 p1 p2 p3 p4 p5 p6 p7 p8 p9 p10 p11 p12 p13 p14 bz
      obtain ⟨p0, p1, p2, p3, p4, p5, p6, p7, p8, p9, p10, p11, p12, p13, p14⟩ := Hcell.out _ K1.out
      clear hW K
      go_wp2_with fail
      clear p0 p1 p2 p3 p4 p5 p6 p7 p8 p9 p10 p11 p12 p13 p14
      have HCl := hid HI.out.cl
      generalize x.r3 = A3 at Hcell HCl ⊢
      go_loopw [5, 19] (fun nv iv wr => ∃ i : Nat, iv = .int .i64 i ∧ i ≤ x.cl.length ∧ nv = .int .i64 (F i) ∧ Hid (Mem w wr [(G, pbc x, 34)])) (fun _ iv _ => x.cl.length - (intOf iv).toNat)
      case atStart => exact ⟨0, rfl, Nat.zero_le _, by rw [Hz.out], K1⟩
      case round =>
        clear K1
        obtain ⟨i, rfl, hi, rfl, KM⟩ := hrel
        have hbn := Hbn.out i hi
        by_cases hlt : i < x.cl.length
        · obtain ⟨ad, y, rfl, had, hy, hyl, _⟩ := Es.get enC_len (by decide) (HCl.out.below KM.out.2 (Nat.le_refl _)) hlt
          have hq := HCl.out.below KM.out.2 (Nat.le_refl _)
          obtain ⟨d0, d1, d2, d3, d4, d5, d6⟩ : wr.cell? (ad.add (i * 7)) = some (txt y.x.n) ∧ wr.cell? ⟨(ad.add (i * 7)).block, (ad.add (i * 7)).off + 1, none⟩ = some (.int .i64 y.x.s) ∧ wr.cell? ⟨(ad.add (i * 7)).block, (ad.add (i * 7)).off + 2, none⟩ = some (.int .u16 (y.x.g : Int)) ∧ wr.cell? ⟨(ad.add (i * 7)).block, (ad.add (i * 7)).off + 3, none⟩ = some (.slice y.r.a y.x.p.length y.r.ac) ∧ wr.cell? ⟨(ad.add (i * 7)).block, (ad.add (i * 7)).off + 4, none⟩ = some (.slice y.r.b y.x.t.length y.r.bc) ∧ wr.cell? ⟨(ad.add (i * 7)).block, (ad.add (i * 7)).off + 5, none⟩ = some (.slice y.r.c y.x.l.length y.r.cc) ∧ wr.cell? ⟨(ad.add (i * 7)).block, (ad.add (i * 7)).off + 6, none⟩ = some (.int .i64 y.x.o) := ⟨es_at enC_len hq hy.out 0 _ rfl, es_fld enC_len hq hy.out 1 (by decide) _ rfl, es_fld enC_len hq hy.out 2 (by decide) _ rfl, es_fld enC_len hq hy.out 3 (by decide) _ rfl, es_fld enC_len hq hy.out 4 (by decide) _ rfl, es_fld enC_len hq hy.out 5 (by decide) _ rfl, es_fld enC_len hq hy.out 6 (by decide) _ rfl⟩
          obtain ⟨D, U, hD, hU, KD, hbD⟩ := KM.out.one (enC y) 62
          obtain ⟨c0, c1, c2, c3, c4, c5, c6⟩ : U.cell? ⟨D, 0, none⟩ = some (txt y.x.n) ∧ U.cell? ⟨D, 1, none⟩ = some (.int .i64 y.x.s) ∧ U.cell? ⟨D, 2, none⟩ = some (.int .u16 (y.x.g : Int)) ∧ U.cell? ⟨D, 3, none⟩ = some (.slice y.r.a y.x.p.length y.r.ac) ∧ U.cell? ⟨D, 4, none⟩ = some (.slice y.r.b y.x.t.length y.r.bc) ∧ U.cell? ⟨D, 5, none⟩ = some (.slice y.r.c y.x.l.length y.r.cc) ∧ U.cell? ⟨D, 6, none⟩ = some (.int .i64 y.x.o) := ⟨KD.out.cell (b := D) (cs := enC y) (t := 62) (by simp) (k := 0) rfl, KD.out.cell (b := D) (cs := enC y) (t := 62) (by simp) (k := 1) rfl, KD.out.cell (b := D) (cs := enC y) (t := 62) (by simp) (k := 2) rfl, KD.out.cell (b := D) (cs := enC y) (t := 62) (by simp) (k := 3) rfl, KD.out.cell (b := D) (cs := enC y) (t := 62) (by simp) (k := 4) rfl, KD.out.cell (b := D) (cs := enC y) (t := 62) (by simp) (k := 5) rfl, KD.out.cell (b := D) (cs := enC y) (t := 62) (by simp) (k := 6) rfl⟩
          have hk := Hk.out i y hy.out
          have hsm := Hsm.out i y hy.out
          have HS := hid (fun X => p_CountC y.x y.r (by omega) (by omega) X)
          have Hs1 := hid (Hst.out i y hy.out)
          have hbn2 := Hbn.out (i + 1) hlt
          have Hsy1 := hid (Hsy.out (i + 1))
          rw [Hs1.out] at hbn2
          obtain ⟨k, hkk⟩ : ∃ k, (seats y.x).length = k := ⟨_, rfl⟩
          rw [hkk] at hk Hs1 hbn2 HS
          have Hfl := hid (show F x.cl.length = F x.cl.length from rfl)
          obtain ⟨n, hn⟩ : ∃ n, F i = n := ⟨_, rfl⟩
          rw [hn] at hbn hbn2 Hs1 ⊢
          have i1 : (0 : Int) ≤ (i : Int) := by omega
          have i2 : (i : Int) < (x.cl.length : Int) := by omega
          have Hile := hid (show i + 1 ≤ x.cl.length from hlt)
          clear hq Hk Hsm Hbn Hst Hz hkk hsm hm Hfl hn hbD
          go_wp2_with fail
          refine (HS.out _).mono ?_
          rintro e Y2 ⟨rfl, bz⟩
          have K2 := hid ((KD.out.next bz).sub (l' := [(G, pbc x, 34)]) (by simp))
          clear d0 d1 d2 d3 d4 d5 d6 c0 c1 c2 c3 c4 c5 c6 bz KM KD hU hD
          obtain ⟨q, hq⟩ : ∃ q, most / (k : Int) = q := ⟨_, rfl⟩
          have q0 : 0 ≤ q := by rw [← hq]; exact Int.ediv_nonneg (by omega) (by omega)
          have q1 : q ≤ most := by rw [← hq]; exact Int.ediv_le_self _ (by omega)
          have hq2 : IntKind.i64.wrap (most / (k : Int)) = q := by rw [hq, IntKind.wrap_i64]; omega
          have hq3 : most.tdiv (k : Int) = q := by rw [Int.tdiv_eq_ediv_of_nonneg (by omega)]; exact hq
          have k0 : ¬ (k : Int) = 0 := by omega
          rw [hq] at Hs1 hbn2
          by_cases hgt : q < n
          · rw [if_pos hgt] at Hs1
            have Hend := hid (Hsy1.out Hs1.out x.cl.length Hile.out (Nat.le_refl _))
            go_wp2_with fail
            go_ret
            exact Did.mk (by rw [Hd.out, Hend.out]; rfl) K2.out.2
          · rw [if_neg hgt] at Hs1 hbn2
            obtain ⟨m, hmm⟩ : ∃ m, n * (k : Int) = m := ⟨_, rfl⟩
            rw [hmm] at Hs1 hbn2
            have hw64 : wrap64 (n * (k : Int)) = m := by rw [hmm]; exact IntWalk.wrap64_in _ ⟨by omega, by omega⟩
            have HW64 := hid hw64
            clear hmm hw64
            go_wp2_with fail
            exact ⟨⟨i + 1, by go_num, by omega, by rw [Hs1.out, HW64.out], K2⟩, by simp [intOf]; omega⟩
        · obtain rfl : i = x.cl.length := by omega
          have i2 : ¬ (x.cl.length : Int) < (x.cl.length : Int) := by omega
          go_wp2_with fail
          go_ret
          exact Did.mk (by rw [Hd.out]; rfl) KM.out.2
    · have hR2 : pbR x.p = false := by simpa using hR
      have Hd := hid (show rr = 0 from by rw [Hr.out, if_pos (.inl hR2)])
      rw [hR2] at HR
      clear h hb0 hf Hr hR hR2
      go_enter Tryz.func23, Tryz.ntmps23
      go_wp2_with fail
      refine (HR.out _ K.out.2).mono ?_
      rintro e Y ⟨rfl, bz⟩
      have K1 := hid (K.out.next bz)
      clear p0 p1 p2 p3 p4 p5 p6 p7 p8 p9 p10 p11 p12 p13 p14
      go_wp2_with fail
      go_ret
      exact Did.mk (by rw [Hd.out]; rfl) K1.out.2
end Go.Proofs.YtgmgccepmalahaaGreat
