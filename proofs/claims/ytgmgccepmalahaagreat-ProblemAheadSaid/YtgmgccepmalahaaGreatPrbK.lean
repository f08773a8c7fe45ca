/- The document's own answers for layer 17 (problem): FindRoom and the others, Teaches. -/
import Derived.Test.YtgmgccepmalahaaGreatPqG
namespace Go.Proofs.YtgmgccepmalahaaGreat
open Go.RowKit
open Whn (Gr Wh)

/-- a field of an element of a row that is read -/
theorem es_fldK {α : Type} {en : α → List Value} {K : Nat} (hK : ∀ x, (en x).length = K) {w : World} {B : Nat} {ad : Addr} {l : List α} (h : Es en w B (some ad) l) {k : Nat} {x : α} (hx : l[k]? = some x) (j : Nat) (hj : 0 < j) (v : Value) (hv : (en x)[j]? = some v) :
    w.cell? ⟨(ad.add (k * K)).block, (ad.add (k * K)).off + j, none⟩ = some v := by
  have h1 := es_at hK h hx j v hv
  have e : ad.add (k * K + j) = ⟨(ad.add (k * K)).block, (ad.add (k * K)).off + j, none⟩ := by
    unfold Addr.add
    rw [if_neg (by omega)]
    by_cases h2 : k * K = 0
    · rw [if_pos h2, h2, Nat.zero_add]
    · rw [if_neg h2]
      show (⟨ad.block, ad.off + (k * K + j), none⟩ : Addr) = ⟨ad.block, ad.off + k * K + j, none⟩
      rw [Nat.add_assoc]
  rw [← e]; exact h1
/-- where a name stands first -/
def fnd (ns : List (List UInt8)) (s : List UInt8) : Int := match (List.range ns.length).find? (fun i => decide (ns.getD i [] = s)) with | some i => (i : Int) | none => -1
theorem fnd_some {ns : List (List UInt8)} {s : List UInt8} {i : Nat} (h : ns[i]? = some s) (hb : ∀ j z, j < i → ns[j]? = some z → z ≠ s) : fnd ns s = (i : Int) := by
  obtain ⟨hi, e⟩ := List.getElem?_eq_some_iff.1 h
  unfold fnd
  rw [find_range hi (by rw [decide_eq_true_iff, List.getD_eq_getElem?_getD, h]; rfl) (fun j hj => by
    rw [decide_eq_false_iff_not, List.getD_eq_getElem?_getD, List.getElem?_eq_getElem (by omega)]
    exact hb j _ hj (List.getElem?_eq_getElem (by omega)))]
theorem fnd_none {ns : List (List UInt8)} {s : List UInt8} (hb : ∀ j z, j < ns.length → ns[j]? = some z → z ≠ s) : fnd ns s = -1 := by
  unfold fnd
  rw [List.find?_eq_none.2 (fun j hj => by
    have hj := List.mem_range.1 hj
    simp only [decide_eq_true_eq]
    rw [List.getD_eq_getElem?_getD, List.getElem?_eq_getElem hj]
    exact hb j _ hj (List.getElem?_eq_getElem hj))]
set_option maxRecDepth 20000 in
set_option maxHeartbeats 4000000 in
theorem r17_FindRoom (x : PbA) (s : List UInt8) (w : World) (h : PbIn w x) : Calls Tryz.prog 26 #[pbv x, txt s] w (Did (.int .i64 (fnd (x.rm.map fun y => y.r.n) s)) w) := by
  have HI := hid h
  have Hs := hid (fun i (y : RmA) (hy : x.rm[i]? = some y) (e : y.r.n = s) hb => fnd_some (ns := x.rm.map fun y => y.r.n) (s := s) (i := i) (by rw [List.getElem?_map, hy, ← e]; rfl) hb)
  have Hn := hid (fun hb => fnd_none (ns := x.rm.map fun y => y.r.n) (s := s) hb)
  rw [List.length_map] at Hn
  have Hg := hid (fun i (y : RmA) (hy : x.rm[i]? = some y) z (hz : (x.rm.map fun y => y.r.n)[i]? = some z) => show z = y.r.n from by rw [List.getElem?_map, hy] at hz; exact (Option.some.inj hz).symm)
  have hC := h.rmC
  unfold maxLen at hC
  generalize fnd (x.rm.map fun y => y.r.n) s = rr at *
  generalize (x.rm.map fun y => y.r.n) = nm at *
  obtain ⟨G, W, hG, hW, K, hb0⟩ := (Mem.nil w).one (pbc x) 34
  have Hcell := hid (fun X (h : Mem w X [(G, pbc x, 34)]) => h.pb (B := G) (x := x) (t := 34) (by simp))
  clear h hb0
  go_enter Tryz.func26, Tryz.ntmps26
  go_wp2_with fail
  go_loopw [5] (fun iv wr => ∃ i : Nat, iv = .int .i64 i ∧ i ≤ x.rm.length ∧ Hid (∀ j z, j < i → nm[j]? = some z → z ≠ s) ∧ Hid (Mem w wr [(G, pbc x, 34)])) (fun iv _ => x.rm.length - (intOf iv).toNat)
  case atStart => exact ⟨0, rfl, Nat.zero_le _, hid (fun j z hj => absurd hj (Nat.not_lt_zero j)), K⟩
  case round =>
    clear K hW
    obtain ⟨i, rfl, hi, HA, KM⟩ := hrel
    obtain ⟨p0, p1, p2, p3, p4, p5, p6, p7, p8, p9, p10, p11, p12, p13, p14⟩ := Hcell.out _ KM.out
    by_cases hlt : i < x.rm.length
    · obtain ⟨ad, y, e0, had, hy, hyl, _⟩ := Es.get enR_len (by decide) (HI.out.rm.below KM.out.2 (Nat.le_refl _)) hlt
      have hq := HI.out.rm.below KM.out.2 (Nat.le_refl _)
      rw [e0] at hq p4
      have d0 : wr.cell? (ad.add (i * 4)) = some (txt y.r.n) := es_at enR_len hq hy.out 0 _ rfl
      have i1 : (0 : Int) ≤ (i : Int) := by omega
      have i2 : (i : Int) < (x.rm.length : Int) := by omega
      clear hq e0
      by_cases hyz : y.r.n = s
      · have q1 : ((bs y.r.n).toList == (bs s).toList) = true := by rw [hyz]; simp
        have Hd := hid (Hs.out i y hy.out hyz HA.out)
        clear hyz
        go_wp2_with fail
        go_ret
        exact Did.mk (by rw [Hd.out]; rfl) KM.out.2
      · have q1 : ((bs y.r.n).toList == (bs s).toList) = false := by rw [list_of, list_of, bs_data, bs_data, beq_eq_false_iff_ne]; exact hyz
        have Hyz := hid hyz
        clear hyz
        go_wp2_with fail
        exact ⟨⟨i + 1, by go_num, by omega, hid (fun j z hj hz => by
          rcases Nat.lt_succ_iff_lt_or_eq.1 hj with h | rfl
          · exact HA.out j z h hz
          · rw [Hg.out j y hy.out z hz]; exact Hyz.out), KM⟩, by simp [intOf]; omega⟩
    · obtain rfl : i = x.rm.length := by omega
      have i2 : ¬ (x.rm.length : Int) < (x.rm.length : Int) := by omega
      have Hd := hid (Hn.out HA.out)
      go_wp2_with fail
      go_ret
      exact Did.mk (by rw [Hd.out]; rfl) KM.out.2
set_option maxRecDepth 20000 in
set_option maxHeartbeats 4000000 in
theorem r17_FindPerson (x : PbA) (s : List UInt8) (w : World) (h : PbIn w x) : Calls Tryz.prog 28 #[pbv x, txt s] w (Did (.int .i64 (fnd (x.ps.map fun y => y.r.n) s)) w) := by
  have HI := hid h
  have Hs := hid (fun i (y : PsA) (hy : x.ps[i]? = some y) (e : y.r.n = s) hb => fnd_some (ns := x.ps.map fun y => y.r.n) (s := s) (i := i) (by rw [List.getElem?_map, hy, ← e]; rfl) hb)
  have Hn := hid (fun hb => fnd_none (ns := x.ps.map fun y => y.r.n) (s := s) hb)
  rw [List.length_map] at Hn
  have Hg := hid (fun i (y : PsA) (hy : x.ps[i]? = some y) z (hz : (x.ps.map fun y => y.r.n)[i]? = some z) => show z = y.r.n from by rw [List.getElem?_map, hy] at hz; exact (Option.some.inj hz).symm)
  have hC := h.psC
  unfold maxLen at hC
  generalize fnd (x.ps.map fun y => y.r.n) s = rr at *
  generalize (x.ps.map fun y => y.r.n) = nm at *
  obtain ⟨G, W, hG, hW, K, hb0⟩ := (Mem.nil w).one (pbc x) 34
  have Hcell := hid (fun X (h : Mem w X [(G, pbc x, 34)]) => h.pb (B := G) (x := x) (t := 34) (by simp))
  clear h hb0
  go_enter Tryz.func28, Tryz.ntmps28
  go_wp2_with fail
  go_loopw [5] (fun iv wr => ∃ i : Nat, iv = .int .i64 i ∧ i ≤ x.ps.length ∧ Hid (∀ j z, j < i → nm[j]? = some z → z ≠ s) ∧ Hid (Mem w wr [(G, pbc x, 34)])) (fun iv _ => x.ps.length - (intOf iv).toNat)
  case atStart => exact ⟨0, rfl, Nat.zero_le _, hid (fun j z hj => absurd hj (Nat.not_lt_zero j)), K⟩
  case round =>
    clear K hW
    obtain ⟨i, rfl, hi, HA, KM⟩ := hrel
    obtain ⟨p0, p1, p2, p3, p4, p5, p6, p7, p8, p9, p10, p11, p12, p13, p14⟩ := Hcell.out _ KM.out
    by_cases hlt : i < x.ps.length
    · obtain ⟨ad, y, e0, had, hy, hyl, _⟩ := Es.get enQ_len (by decide) (HI.out.ps.below KM.out.2 (Nat.le_refl _)) hlt
      have hq := HI.out.ps.below KM.out.2 (Nat.le_refl _)
      rw [e0] at hq p6
      have d0 : wr.cell? (ad.add (i * 2)) = some (txt y.r.n) := es_at enQ_len hq hy.out 0 _ rfl
      have i1 : (0 : Int) ≤ (i : Int) := by omega
      have i2 : (i : Int) < (x.ps.length : Int) := by omega
      clear hq e0
      by_cases hyz : y.r.n = s
      · have q1 : ((bs y.r.n).toList == (bs s).toList) = true := by rw [hyz]; simp
        have Hd := hid (Hs.out i y hy.out hyz HA.out)
        clear hyz
        go_wp2_with fail
        go_ret
        exact Did.mk (by rw [Hd.out]; rfl) KM.out.2
      · have q1 : ((bs y.r.n).toList == (bs s).toList) = false := by rw [list_of, list_of, bs_data, bs_data, beq_eq_false_iff_ne]; exact hyz
        have Hyz := hid hyz
        clear hyz
        go_wp2_with fail
        exact ⟨⟨i + 1, by go_num, by omega, hid (fun j z hj hz => by
          rcases Nat.lt_succ_iff_lt_or_eq.1 hj with h | rfl
          · exact HA.out j z h hz
          · rw [Hg.out j y hy.out z hz]; exact Hyz.out), KM⟩, by simp [intOf]; omega⟩
    · obtain rfl : i = x.ps.length := by omega
      have i2 : ¬ (x.ps.length : Int) < (x.ps.length : Int) := by omega
      have Hd := hid (Hn.out HA.out)
      go_wp2_with fail
      go_ret
      exact Did.mk (by rw [Hd.out]; rfl) KM.out.2
set_option maxRecDepth 20000 in
set_option maxHeartbeats 4000000 in
theorem r17_FindClass (x : PbA) (s : List UInt8) (w : World) (h : PbIn w x) : Calls Tryz.prog 30 #[pbv x, txt s] w (Did (.int .i64 (fnd (x.cl.map fun y => y.x.n) s)) w) := by
  have HI := hid h
  have Hs := hid (fun i (y : ClA) (hy : x.cl[i]? = some y) (e : y.x.n = s) hb => fnd_some (ns := x.cl.map fun y => y.x.n) (s := s) (i := i) (by rw [List.getElem?_map, hy, ← e]; rfl) hb)
  have Hn := hid (fun hb => fnd_none (ns := x.cl.map fun y => y.x.n) (s := s) hb)
  rw [List.length_map] at Hn
  have Hg := hid (fun i (y : ClA) (hy : x.cl[i]? = some y) z (hz : (x.cl.map fun y => y.x.n)[i]? = some z) => show z = y.x.n from by rw [List.getElem?_map, hy] at hz; exact (Option.some.inj hz).symm)
  have hC := h.clC
  unfold maxLen at hC
  generalize fnd (x.cl.map fun y => y.x.n) s = rr at *
  generalize (x.cl.map fun y => y.x.n) = nm at *
  obtain ⟨G, W, hG, hW, K, hb0⟩ := (Mem.nil w).one (pbc x) 34
  have Hcell := hid (fun X (h : Mem w X [(G, pbc x, 34)]) => h.pb (B := G) (x := x) (t := 34) (by simp))
  clear h hb0
  go_enter Tryz.func30, Tryz.ntmps30
  go_wp2_with fail
  go_loopw [5] (fun iv wr => ∃ i : Nat, iv = .int .i64 i ∧ i ≤ x.cl.length ∧ Hid (∀ j z, j < i → nm[j]? = some z → z ≠ s) ∧ Hid (Mem w wr [(G, pbc x, 34)])) (fun iv _ => x.cl.length - (intOf iv).toNat)
  case atStart => exact ⟨0, rfl, Nat.zero_le _, hid (fun j z hj => absurd hj (Nat.not_lt_zero j)), K⟩
  case round =>
    clear K hW
    obtain ⟨i, rfl, hi, HA, KM⟩ := hrel
    obtain ⟨p0, p1, p2, p3, p4, p5, p6, p7, p8, p9, p10, p11, p12, p13, p14⟩ := Hcell.out _ KM.out
    by_cases hlt : i < x.cl.length
    · obtain ⟨ad, y, e0, had, hy, hyl, _⟩ := Es.get enC_len (by decide) (HI.out.cl.below KM.out.2 (Nat.le_refl _)) hlt
      have hq := HI.out.cl.below KM.out.2 (Nat.le_refl _)
      rw [e0] at hq p7
      have d0 : wr.cell? (ad.add (i * 7)) = some (txt y.x.n) := es_at enC_len hq hy.out 0 _ rfl
      have i1 : (0 : Int) ≤ (i : Int) := by omega
      have i2 : (i : Int) < (x.cl.length : Int) := by omega
      clear hq e0
      by_cases hyz : y.x.n = s
      · have q1 : ((bs y.x.n).toList == (bs s).toList) = true := by rw [hyz]; simp
        have Hd := hid (Hs.out i y hy.out hyz HA.out)
        clear hyz
        go_wp2_with fail
        go_ret
        exact Did.mk (by rw [Hd.out]; rfl) KM.out.2
      · have q1 : ((bs y.x.n).toList == (bs s).toList) = false := by rw [list_of, list_of, bs_data, bs_data, beq_eq_false_iff_ne]; exact hyz
        have Hyz := hid hyz
        clear hyz
        go_wp2_with fail
        exact ⟨⟨i + 1, by go_num, by omega, hid (fun j z hj hz => by
          rcases Nat.lt_succ_iff_lt_or_eq.1 hj with h | rfl
          · exact HA.out j z h hz
          · rw [Hg.out j y hy.out z hz]; exact Hyz.out), KM⟩, by simp [intOf]; omega⟩
    · obtain rfl : i = x.cl.length := by omega
      have i2 : ¬ (x.cl.length : Int) < (x.cl.length : Int) := by omega
      have Hd := hid (Hn.out HA.out)
      go_wp2_with fail
      go_ret
      exact Did.mk (by rw [Hd.out]; rfl) KM.out.2
set_option maxRecDepth 20000 in
set_option maxHeartbeats 4000000 in
theorem r17_FindCourse (x : PbA) (s : List UInt8) (w : World) (h : PbIn w x) : Calls Tryz.prog 32 #[pbv x, txt s] w (Did (.int .i64 (fnd (x.cs.map fun y => y.x.n) s)) w) := by
  have HI := hid h
  have Hs := hid (fun i (y : CsA) (hy : x.cs[i]? = some y) (e : y.x.n = s) hb => fnd_some (ns := x.cs.map fun y => y.x.n) (s := s) (i := i) (by rw [List.getElem?_map, hy, ← e]; rfl) hb)
  have Hn := hid (fun hb => fnd_none (ns := x.cs.map fun y => y.x.n) (s := s) hb)
  rw [List.length_map] at Hn
  have Hg := hid (fun i (y : CsA) (hy : x.cs[i]? = some y) z (hz : (x.cs.map fun y => y.x.n)[i]? = some z) => show z = y.x.n from by rw [List.getElem?_map, hy] at hz; exact (Option.some.inj hz).symm)
  have hC := h.csC
  unfold maxLen at hC
  generalize fnd (x.cs.map fun y => y.x.n) s = rr at *
  generalize (x.cs.map fun y => y.x.n) = nm at *
  obtain ⟨G, W, hG, hW, K, hb0⟩ := (Mem.nil w).one (pbc x) 34
  have Hcell := hid (fun X (h : Mem w X [(G, pbc x, 34)]) => h.pb (B := G) (x := x) (t := 34) (by simp))
  clear h hb0
  go_enter Tryz.func32, Tryz.ntmps32
  go_wp2_with fail
  go_loopw [5] (fun iv wr => ∃ i : Nat, iv = .int .i64 i ∧ i ≤ x.cs.length ∧ Hid (∀ j z, j < i → nm[j]? = some z → z ≠ s) ∧ Hid (Mem w wr [(G, pbc x, 34)])) (fun iv _ => x.cs.length - (intOf iv).toNat)
  case atStart => exact ⟨0, rfl, Nat.zero_le _, hid (fun j z hj => absurd hj (Nat.not_lt_zero j)), K⟩
  case round =>
    clear K hW
    obtain ⟨i, rfl, hi, HA, KM⟩ := hrel
    obtain ⟨p0, p1, p2, p3, p4, p5, p6, p7, p8, p9, p10, p11, p12, p13, p14⟩ := Hcell.out _ KM.out
    by_cases hlt : i < x.cs.length
    · obtain ⟨ad, y, e0, had, hy, hyl, _⟩ := Es.get enK_len (by decide) (HI.out.cs.below KM.out.2 (Nat.le_refl _)) hlt
      have hq := HI.out.cs.below KM.out.2 (Nat.le_refl _)
      rw [e0] at hq p8
      have d0 : wr.cell? (ad.add (i * 2)) = some (txt y.x.n) := es_at enK_len hq hy.out 0 _ rfl
      have i1 : (0 : Int) ≤ (i : Int) := by omega
      have i2 : (i : Int) < (x.cs.length : Int) := by omega
      clear hq e0
      by_cases hyz : y.x.n = s
      · have q1 : ((bs y.x.n).toList == (bs s).toList) = true := by rw [hyz]; simp
        have Hd := hid (Hs.out i y hy.out hyz HA.out)
        clear hyz
        go_wp2_with fail
        go_ret
        exact Did.mk (by rw [Hd.out]; rfl) KM.out.2
      · have q1 : ((bs y.x.n).toList == (bs s).toList) = false := by rw [list_of, list_of, bs_data, bs_data, beq_eq_false_iff_ne]; exact hyz
        have Hyz := hid hyz
        clear hyz
        go_wp2_with fail
        exact ⟨⟨i + 1, by go_num, by omega, hid (fun j z hj hz => by
          rcases Nat.lt_succ_iff_lt_or_eq.1 hj with h | rfl
          · exact HA.out j z h hz
          · rw [Hg.out j y hy.out z hz]; exact Hyz.out), KM⟩, by simp [intOf]; omega⟩
    · obtain rfl : i = x.cs.length := by omega
      have i2 : ¬ (x.cs.length : Int) < (x.cs.length : Int) := by omega
      have Hd := hid (Hn.out HA.out)
      go_wp2_with fail
      go_ret
      exact Did.mk (by rw [Hd.out]; rfl) KM.out.2
end Go.Proofs.YtgmgccepmalahaaGreat
