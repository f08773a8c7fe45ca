/- The document's own answers for layer 17 (problem): Plans. -/
import Derived.Test.YtgmgccepmalahaaGreatPrbF
import Derived.Test.YtgmgccepmalahaaGreatPqD
namespace Go.Proofs.YtgmgccepmalahaaGreat
open Go.RowKit
open Whn (Gr Wh)

/-- how many plans the first classes have, but most -/
def plF (l : List Cl) (most : Int) : Nat → Int
  | 0 => 1
  | i + 1 => if most / (((seats (l.getD i ⟨[], 0, 0, [], [], [], 0⟩)).length : Nat) : Int) < plF l most i then most else plF l most i * (((seats (l.getD i ⟨[], 0, 0, [], [], [], 0⟩)).length : Nat) : Int)
def plV (p : Pb) (most : Int) : Int := if pbR p = false ∨ most < 1 then 0 else plF p.cl most p.cl.length
theorem find_none_range {p : Nat → Bool} {n : Nat} (h : (List.range n).find? p = none) : ∀ j, j < n → p j = false := fun j hj => by
  have := List.find?_eq_none.1 h j (List.mem_range.2 hj)
  simpa using this
theorem fst17_neg {ns : List (List UInt8)} {rs : List Bool} {most : Int} (h : fst17 ns rs most < 0) : ∀ j, j < ns.length → badAt ns rs most j = false := by
  unfold fst17 at h
  split at h
  · omega
  · rename_i h2; exact find_none_range h2
theorem chkG_ok {nk rg : Bool} {i0 : Int} {wk : Bool} {n i1 i2 i3 i4 i5 : Int} {wt : Bool} (h : (chkG nk rg i0 wk n i1 i2 i3 i4 i5 wt).1 = 0) : nk = true ∧ rg = true ∧ i0 < 0 ∧ wk = true ∧ i1 < 0 ∧ i2 < 0 ∧ i3 < 0 ∧ i4 < 0 ∧ i5 < 0 ∧ wt = true := by
  unfold chkG at h
  by_cases a : nk = false
  · rw [if_pos a] at h
    exact absurd h (by simp)
  rw [if_neg a] at h
  by_cases b : rg = false
  · rw [if_pos b] at h
    exact absurd h (by simp)
  rw [if_neg b] at h
  by_cases c : 0 ≤ i0
  · rw [if_pos c] at h
    exact absurd h (by simp)
  rw [if_neg c] at h
  by_cases d : wk = false
  · rw [if_pos d] at h
    exact absurd h (by simp)
  rw [if_neg d] at h
  by_cases e : 0 ≤ i1
  · rw [if_pos e] at h
    exact absurd h (by simp)
  rw [if_neg e] at h
  by_cases f : 0 ≤ i2
  · rw [if_pos f] at h
    exact absurd h (by simp)
  rw [if_neg f] at h
  by_cases g : 0 ≤ i3
  · rw [if_pos g] at h
    exact absurd h (by simp)
  rw [if_neg g] at h
  by_cases k : 0 ≤ i4
  · rw [if_pos k] at h
    exact absurd h (by simp)
  rw [if_neg k] at h
  by_cases l : 0 ≤ i5
  · rw [if_pos l] at h
    exact absurd h (by simp)
  rw [if_neg l] at h
  by_cases m : wt = false
  · rw [if_pos m] at h
    exact absurd h (by simp)
  rw [if_neg m] at h
  exact ⟨by simpa using a, by simpa using b, by omega, by simpa using d, by omega, by omega, by omega, by omega, by omega, by simpa using m⟩
/-- each class of a problem that may be, may be -/
theorem cl_right {p : Pb} (h : pbR p = true) {i : Nat} {y : Cl} (hy : p.cl[i]? = some y) : clRight p.g (p.rm.length : Nat) (p.ps.length : Nat) (p.cl.length : Nat) y = true := by
  unfold pbR at h
  rw [decide_eq_true_iff] at h
  unfold chk at h
  have h2 := (chkG_ok h).2.2.2.2.2.1
  unfold clI at h2
  obtain ⟨hi, e⟩ := List.getElem?_eq_some_iff.1 hy
  have := fst17_neg h2 i (by rw [List.length_map]; exact hi)
  unfold badAt at this
  rw [Bool.or_eq_false_iff, Bool.or_eq_false_iff] at this
  have h3 := this.2.1
  rw [List.getD_eq_getElem?_getD, List.getElem?_map, hy] at h3
  simpa using h3
theorem cl_small {g : Gr} {rn pn cn : Int} {x : Cl} (h : clRight g rn pn cn x = true) : 1 ≤ x.t.length ∧ x.t.length ≤ 16 ∧ x.l.length ≤ 12 := by
  unfold clRight at h
  simp only [Bool.and_eq_true] at h
  obtain ⟨⟨⟨⟨_, ht⟩, hp⟩, _⟩, _⟩ := h
  unfold timesB at ht
  unfold placesB at hp
  simp only [Bool.and_eq_true, decide_eq_true_iff] at ht hp
  omega
theorem seats_pos {g : Gr} {rn pn cn : Int} {x : Cl} (h : clRight g rn pn cn x = true) : 1 ≤ (seats x).length ∧ (seats x).length ≤ 192 := by
  obtain ⟨h1, h2, h3⟩ := cl_small h
  rw [seats_len]
  constructor
  · exact Nat.mul_pos h1 (by omega)
  · exact Nat.le_trans (Nat.mul_le_mul h2 (show max 1 x.l.length ≤ 12 by omega)) (by decide)
theorem plF_bnd {l : List Cl} {most : Int} (hm : 1 ≤ most) (hk : ∀ (i : Nat) (y : Cl), l[i]? = some y → 1 ≤ (seats y).length) : ∀ i, i ≤ l.length → 1 ≤ plF l most i ∧ plF l most i ≤ most := by
  intro i
  induction i with
  | zero => intro _; exact ⟨Int.le_refl _, hm⟩
  | succ i ih =>
    intro hi
    have h1 := ih (by omega)
    have hy : l[i]? = some l[i] := List.getElem?_eq_getElem (by omega)
    have hk1 := hk i _ hy
    have e : plF l most (i + 1) = (if most / (((seats l[i]).length : Nat) : Int) < plF l most i then most else plF l most i * (((seats l[i]).length : Nat) : Int)) := by
      rw [plF, List.getD_eq_getElem?_getD, hy]; rfl
    rw [e]
    clear e
    generalize hkk : (((seats l[i]).length : Nat) : Int) = k at *
    have hk0 : 1 ≤ k := by omega
    split
    · exact ⟨hm, Int.le_refl _⟩
    · rename_i hle
      have h2 : plF l most i * k ≤ most := Int.le_trans (Int.mul_le_mul_of_nonneg_right (by omega) (by omega)) (Int.ediv_mul_le most (by omega))
      have h3 : 1 * 1 ≤ plF l most i * k := Int.mul_le_mul h1.1 hk0 (by omega) (by omega)
      exact ⟨by omega, h2⟩
set_option maxRecDepth 20000 in
set_option maxHeartbeats 8000000 in
theorem r17_Plans (x : PbA) (most : Int) (hmost : I64 most) (w : World) (h : PbIn w x) (hf : PbFew x) : Calls Tryz.prog 24 #[pbv x, .int .i64 most] w (Did (.int .i64 (plV x.p most)) w) := by
  have HR := hid (fun X (hb : Below w.heap.size w X) => r17_Right x X (h.next hb) hf)
  have Hr := hid (show plV x.p most = if pbR x.p = false ∨ most < 1 then 0 else plF x.p.cl most x.p.cl.length from rfl)
  have hpl : x.p.cl.length = x.cl.length := List.length_map ..
  unfold I64 at hmost
  have hfl := hf.2.2.2.1
  have HI := hid h
  generalize plV x.p most = rr at *
  obtain ⟨G, W, hG, hW, K, hb0⟩ := (Mem.nil w).one (pbc x) 34
  have Hcell := hid (fun X (h : Mem w X [(G, pbc x, 34)]) => h.pb (B := G) (x := x) (t := 34) (by simp))
  obtain ⟨p0, p1, p2, p3, p4, p5, p6, p7, p8, p9, p10, p11, p12, p13, p14⟩ := Hcell.out _ K.out
  by_cases hR : pbR x.p = true
  · by_cases hm : most < 1
    · have Hd := hid (show rr = 0 from by rw [Hr.out, if_pos (.inr hm)])
      rw [hR] at HR
      clear h hb0 hf Hr hR
      go_enter Tryz.func24, Tryz.ntmps24
      go_wp2_with fail
      refine (HR.out _ K.out.2).mono ?_
      rintro e Y ⟨rfl, bz⟩
      have K1 := hid (K.out.next bz)
      clear p0 p1 p2 p3 p4 p5 p6 p7 p8 p9 p10 p11 p12 p13 p14
      go_wp2_with fail
      go_ret
      exact Did.mk (by rw [Hd.out]; rfl) K1.out.2
    · have Hd := hid (show rr = plF x.p.cl most x.cl.length from by rw [Hr.out, if_neg (fun h => h.elim (fun h => by rw [hR] at h; cases h) hm), hpl])
      have Hk := hid (fun i y (hy : x.cl[i]? = some y) => seats_pos (cl_right hR (i := i) (y := y.x) (by show (x.cl.map (·.x))[i]? = _; rw [List.getElem?_map, hy]; rfl)))
      have Hsm := hid (fun i y (hy : x.cl[i]? = some y) => cl_small (cl_right hR (i := i) (y := y.x) (by show (x.cl.map (·.x))[i]? = _; rw [List.getElem?_map, hy]; rfl)))
      have Hbn := hid (plF_bnd (l := x.p.cl) (most := most) (by omega) (fun i y hy => by
        have hy' : (x.cl.map (·.x))[i]? = some y := hy
        rw [List.getElem?_map] at hy'
        cases hq : x.cl[i]? with
        | none => rw [hq] at hy'; cases hy'
        | some z =>
          rw [hq] at hy'
          obtain rfl := Option.some.inj hy'
          exact (Hk.out i z hq).1))
      rw [hpl] at Hbn
      have Hst := hid (fun i y (hy : x.cl[i]? = some y) => show plF x.p.cl most (i + 1) = (if most / (((seats y.x).length : Nat) : Int) < plF x.p.cl most i then most else plF x.p.cl most i * (((seats y.x).length : Nat) : Int)) from by
        rw [plF, List.getD_eq_getElem?_getD, show x.p.cl[i]? = some y.x from by show (x.cl.map (·.x))[i]? = _; rw [List.getElem?_map, hy]; rfl]
        rfl)
      have Hz := hid (show plF x.p.cl most 0 = 1 from rfl)
      generalize plF x.p.cl most = F at *
      rw [hR] at HR
      clear h hb0 hf Hr hR hpl
      have m1 : ¬ most < 1 := hm
      go_enter Tryz.func24, Tryz.ntmps24
      go_wp2_with fail
      refine (HR.out _ K.out.2).mono ?_
      rintro e Y ⟨rfl, bz⟩
      have K1 := hid (K.out.next bz)
      clear p0 p1 p2 p3 p4 p5 p6 p7 p8 p9 p10 p11 p12 p13 p14 K bz hW
      go_wp2_with fail
      go_loopw [5, 6] (fun nv iv wr => ∃ i : Nat, iv = .int .i64 i ∧ i ≤ x.cl.length ∧ nv = .int .i64 (F i) ∧ Hid (Mem w wr [(G, pbc x, 34)])) (fun _ iv _ => x.cl.length - (intOf iv).toNat)
      case atStart => exact ⟨0, rfl, Nat.zero_le _, by rw [Hz.out], K1⟩
      case round =>
        clear K1
        obtain ⟨i, rfl, hi, rfl, KM⟩ := hrel
        obtain ⟨p0, p1, p2, p3, p4, p5, p6, p7, p8, p9, p10, p11, p12, p13, p14⟩ := Hcell.out _ KM.out
        have hbn := Hbn.out i hi
        by_cases hlt : i < x.cl.length
        · obtain ⟨ad, y, e0, had, hy, hyl, _⟩ := Es.get enC_len (by decide) (HI.out.cl.below KM.out.2 (Nat.le_refl _)) hlt
          have hq := HI.out.cl.below KM.out.2 (Nat.le_refl _)
          rw [e0] at hq p7
          obtain ⟨d0, d1, d2, d3, d4, d5, d6⟩ : wr.cell? (ad.add (i * 7)) = some (txt y.x.n) ∧ wr.cell? ⟨(ad.add (i * 7)).block, (ad.add (i * 7)).off + 1, none⟩ = some (.int .i64 y.x.s) ∧ wr.cell? ⟨(ad.add (i * 7)).block, (ad.add (i * 7)).off + 2, none⟩ = some (.int .u16 (y.x.g : Int)) ∧ wr.cell? ⟨(ad.add (i * 7)).block, (ad.add (i * 7)).off + 3, none⟩ = some (.slice y.r.a y.x.p.length y.r.ac) ∧ wr.cell? ⟨(ad.add (i * 7)).block, (ad.add (i * 7)).off + 4, none⟩ = some (.slice y.r.b y.x.t.length y.r.bc) ∧ wr.cell? ⟨(ad.add (i * 7)).block, (ad.add (i * 7)).off + 5, none⟩ = some (.slice y.r.c y.x.l.length y.r.cc) ∧ wr.cell? ⟨(ad.add (i * 7)).block, (ad.add (i * 7)).off + 6, none⟩ = some (.int .i64 y.x.o) := ⟨es_at enC_len hq hy.out 0 _ rfl, es_fld enC_len hq hy.out 1 (by decide) _ rfl, es_fld enC_len hq hy.out 2 (by decide) _ rfl, es_fld enC_len hq hy.out 3 (by decide) _ rfl, es_fld enC_len hq hy.out 4 (by decide) _ rfl, es_fld enC_len hq hy.out 5 (by decide) _ rfl, es_fld enC_len hq hy.out 6 (by decide) _ rfl⟩
          have hk := Hk.out i y hy.out
          have hsm := Hsm.out i y hy.out
          have HS := hid (fun X => r_Seats y.x y.r (by omega) (by omega) X)
          have Hs1 := hid (Hst.out i y hy.out)
          have hbn2 := Hbn.out (i + 1) hlt
          rw [Hs1.out] at hbn2
          obtain ⟨k, hkk⟩ : ∃ k, (seats y.x).length = k := ⟨_, rfl⟩
          rw [hkk] at hk Hs1 hbn2
          generalize F i = n at *
          have i1 : (0 : Int) ≤ (i : Int) := by omega
          have i2 : (i : Int) < (x.cl.length : Int) := by omega
          have Hkk := hid hkk
          clear hq Hk Hsm Hbn Hst Hz hkk hsm hm e0
          go_wp2_with fail
          refine (HS.out _).mono ?_
          rintro e Y2 ⟨v2, rfl, hown, bz⟩
          have K2 := hid (KM.out.next bz)
          rw [Hkk.out] at hown
          obtain ⟨A2, c2, rfl⟩ : ∃ A c, v2 = .slice A k c := by
            rcases hown.2 with ⟨rfl, h0⟩ | ⟨g2, cap, cur, rfl, _⟩
            · exact ⟨none, 0, by rw [h0]⟩
            · exact ⟨_, _, rfl⟩
          clear p0 p1 p2 p3 p4 p5 p6 p7 p8 p9 p10 p11 p12 p13 p14 d0 d1 d2 d3 d4 d5 d6 hown bz KM
          obtain ⟨q, hq⟩ : ∃ q, most / (k : Int) = q := ⟨_, rfl⟩
          have q0 : 0 ≤ q := by rw [← hq]; exact Int.ediv_nonneg (by omega) (by omega)
          have q1 : q ≤ most := by rw [← hq]; exact Int.ediv_le_self _ (by omega)
          have hq2 : IntKind.i64.wrap (most / (k : Int)) = q := by rw [hq, IntKind.wrap_i64]; omega
          have hq3 : most.tdiv (k : Int) = q := by rw [Int.tdiv_eq_ediv_of_nonneg (by omega)]; exact hq
          have k0 : ¬ (k : Int) = 0 := by omega
          rw [hq] at Hs1 hbn2
          by_cases hgt : q < n
          · rw [if_pos hgt] at Hs1
            go_wp2_with fail
            exact ⟨⟨i + 1, by go_num, by omega, by rw [Hs1.out], K2⟩, by simp [intOf]; omega⟩
          · rw [if_neg hgt] at Hs1 hbn2
            obtain ⟨m, hmm⟩ : ∃ m, n * (k : Int) = m := ⟨_, rfl⟩
            rw [hmm] at Hs1 hbn2
            have hw64 : wrap64 (n * (k : Int)) = m := by rw [hmm]; exact IntWalk.wrap64_in _ ⟨by omega, by omega⟩
            have HW64 := hid hw64
            clear hmm hw64
            go_wp2_with fail
            exact ⟨⟨i + 1, by go_num, by omega, by rw [Hs1.out, HW64.out], K2⟩, by simp [intOf]; omega⟩
        · obtain rfl : i = x.cl.length := by omega
          have i2 : ¬ (x.cl.length : Int) < (x.cl.length : Int) := by omega
          go_wp2_with fail
          go_ret
          exact Did.mk (by rw [Hd.out]; rfl) KM.out.2
  · have hR2 : pbR x.p = false := by simpa using hR
    have Hd := hid (show rr = 0 from by rw [Hr.out, if_pos (.inl hR2)])
    rw [hR2] at HR
    clear h hb0 hf Hr hR hR2
    go_enter Tryz.func24, Tryz.ntmps24
    go_wp2_with fail
    refine (HR.out _ K.out.2).mono ?_
    rintro e Y ⟨rfl, bz⟩
    have K1 := hid (K.out.next bz)
    clear p0 p1 p2 p3 p4 p5 p6 p7 p8 p9 p10 p11 p12 p13 p14
    go_wp2_with fail
    go_ret
    exact Did.mk (by rw [Hd.out]; rfl) K1.out.2
end Go.Proofs.YtgmgccepmalahaaGreat
