/- The document's own answers for layer 17 (problem): rules, Check, Right. -/
import Derived.Test.YtgmgccepmalahaaGreatPrbE
import Derived.Test.YtgmgccepmalahaaGreatRomG
namespace Go.Proofs.YtgmgccepmalahaaGreat
open Go.RowKit
open Whn (Gr Wh)

/-! ### rules -/
def badR (n : Int) (l : List Rl) (i : Nat) : Bool := decide (i = 60) || !(ruleB n (l.getD i ⟨0, [], 0, 0, false, 0⟩))
def frl17 (n : Int) (l : List Rl) : Int := match (List.range l.length).find? (badR n l) with | some i => (i : Int) | none => -1
theorem frl17_some {n : Int} {l : List Rl} {i : Nat} (hi : i < l.length) (h : badR n l i = true) (hb : ∀ j, j < i → badR n l j = false) : frl17 n l = (i : Int) := by
  unfold frl17; rw [find_range hi h hb]
theorem frl17_none {n : Int} {l : List Rl} (hb : ∀ j, j < l.length → badR n l j = false) : frl17 n l = -1 := by
  unfold frl17
  rw [List.find?_eq_none.2 (fun j hj => by rw [hb j (List.mem_range.1 hj)]; decide)]
set_option maxRecDepth 20000 in
set_option maxHeartbeats 8000000 in
theorem r17_rules (x : PbA) (w : World) (h : PbIn w x) (hf : x.rl.length ≤ 1000) : Calls Tryz.prog 56 #[pbv x] w (Did (.int .i64 (frl17 (x.cl.length : Nat) (x.rl.map (·.x)))) w) := by
  have HC := hid (fun (y : RlA) (hy : y ∈ x.rl) X (hb : Below w.heap.size w X) => show Calls Tryz.prog 16 #[.int .i64 (x.cl.length : Nat), rlv y.x y.r y.c] X (Did (.bool (ruleB (x.cl.length : Nat) y.x)) X) from by
    have hi := (h.rlI y hy).next hb
    exact r17_Rule _ y.x y.r y.c hi.2.2 X hi.2.1)
  have Hs := hid (fun i (hi : i < x.rl.length) h hb => frl17_some (n := (x.cl.length : Nat)) (l := x.rl.map (·.x)) (i := i) (by rw [List.length_map]; exact hi) h hb)
  have Hn := hid (fun hb => frl17_none (n := (x.cl.length : Nat)) (l := x.rl.map (·.x)) hb)
  rw [List.length_map] at Hn
  have Hb := hid (fun i y (hy : x.rl[i]? = some y) => show badR (x.cl.length : Nat) (x.rl.map (·.x)) i = (decide (i = 60) || !(ruleB (x.cl.length : Nat) y.x)) by
    unfold badR
    rw [List.getD_eq_getElem?_getD, List.getElem?_map, hy]; rfl)
  have H := hid h.rl
  generalize frl17 (x.cl.length : Nat) (x.rl.map (·.x)) = rr at *
  generalize badR (x.cl.length : Nat) (x.rl.map (·.x)) = bd at *
  obtain ⟨N, hN⟩ : ∃ N, x.rl.length = N := ⟨_, rfl⟩
  obtain ⟨G, W, hG, hW, K, hb0⟩ := (Mem.nil w).one (pbc x) 34
  have Hcell := hid (fun X (h : Mem w X [(G, pbc x, 34)]) => h.pb (B := G) (x := x) (t := 34) (by simp))
  rw [hN] at hf Hs Hn
  unfold pbc at hW
  rw [hN] at hW
  clear h hb0
  go_enter Tryz.func56, Tryz.ntmps56
  go_wp2_with fail
  go_loopw [3] (fun iv wr => ∃ i : Nat, iv = .int .i64 i ∧ i ≤ N ∧ Hid (∀ j, j < i → bd j = false) ∧ Hid (Mem w wr [(G, pbc x, 34)])) (fun iv _ => N - (intOf iv).toNat)
  case atStart => exact ⟨0, rfl, Nat.zero_le _, hid (fun j hj => absurd hj (Nat.not_lt_zero j)), K⟩
  case round =>
    clear K hW
    obtain ⟨i, rfl, hi, HA, KM⟩ := hrel
    obtain ⟨p0, p1, p2, p3, p4, p5, p6, p7, p8, p9, p10, p11, p12, p13, p14⟩ := Hcell.out _ KM.out
    rw [hN] at p10
    by_cases hlt : i < N
    · obtain ⟨ad, y, e0, had, hy, hyl, _⟩ := Es.get enU_len (by decide) H.out (k := i) (by rw [hN]; exact hlt)
      have Hrow := hid (fun X (hb : Below w.heap.size w X) => (show X.cell? (ad.add (i * 6)) = some (.int .i64 y.x.k) ∧ X.cell? ⟨(ad.add (i * 6)).block, (ad.add (i * 6)).off + 1, none⟩ = some (.slice y.r y.x.l.length y.c) ∧ X.cell? ⟨(ad.add (i * 6)).block, (ad.add (i * 6)).off + 2, none⟩ = some (.int .i64 y.x.a) ∧ X.cell? ⟨(ad.add (i * 6)).block, (ad.add (i * 6)).off + 3, none⟩ = some (.int .i64 y.x.b) ∧ X.cell? ⟨(ad.add (i * 6)).block, (ad.add (i * 6)).off + 4, none⟩ = some (.bool y.x.h) ∧ X.cell? ⟨(ad.add (i * 6)).block, (ad.add (i * 6)).off + 5, none⟩ = some (.int .i64 y.x.c) from by
        have hq := H.out.below hb (Nat.le_refl _)
        rw [e0] at hq
        exact ⟨es_at enU_len hq hy.out 0 _ rfl, es_fld enU_len hq hy.out 1 (by decide) _ rfl, es_fld enU_len hq hy.out 2 (by decide) _ rfl, es_fld enU_len hq hy.out 3 (by decide) _ rfl, es_fld enU_len hq hy.out 4 (by decide) _ rfl, es_fld enU_len hq hy.out 5 (by decide) _ rfl⟩))
      rw [e0] at p10
      have i1 : (0 : Int) ≤ (i : Int) := by omega
      have i2 : (i : Int) < (N : Int) := by omega
      have HCy := hid (HC.out y hyl)
      have Hbi := hid (Hb.out i y hy.out)
      obtain ⟨q, hq⟩ : ∃ q, ruleB (x.cl.length : Nat) y.x = q := ⟨_, rfl⟩
      rw [hq] at HCy Hbi
      clear hq
      by_cases h60 : i = 60
      · have Hd := hid (Hs.out i hlt (by rw [Hbi.out, decide_eq_true h60]; rfl) HA.out)
        have e60 : ((i : Int) == 60) = true := by rw [beq_iff_eq]; omega
        clear h60
        go_upto_region 4 with fail
        refine wp_region_held_drew (S := fun X => Mem w X [(G, pbc x, 34)]) (by kernel_rfl) KM.out.drew (fun hHeld => ?_)
        refine takeH 0 11 (.int .i64 i) rfl rfl (by kernel_rfl) (by kernel_rfl) (by kernel_rfl) (fun _ _ _ h => h) (by kernel_rfl) (fun X hX => by clear hX; first | rfl | go_simp) hHeld ?_
        simp only [Act.put, List.setIfInBounds_toArray, List.set_cons_zero, List.set_cons_succ]
        refine takeH 1 12 (.bool true) rfl rfl (by kernel_rfl) (by kernel_rfl) (by kernel_rfl) (fun _ _ _ h => h) (by kernel_rfl) (fun X hX => by clear hX; first | rfl | go_simp) hHeld ?_
        simp only [Act.put, List.setIfInBounds_toArray, List.set_cons_zero, List.set_cons_succ]
        refine takeH 2 13 (.bool true) rfl rfl (by kernel_rfl) (by kernel_rfl) (by kernel_rfl) (fun _ _ _ h => h) (by kernel_rfl) (fun X hX => by clear hX; first | rfl | go_simp) hHeld ?_
        simp only [Act.put, List.setIfInBounds_toArray, List.set_cons_zero, List.set_cons_succ]
        refine skipH 3 14 rfl rfl (by kernel_rfl) (by kernel_rfl) (by kernel_rfl) (fun _ _ _ h => h) (by kernel_rfl) hHeld ?_
        simp only [Act.put, List.setIfInBounds_toArray, List.set_cons_zero, List.set_cons_succ]
        refine skipH 4 15 rfl rfl (by kernel_rfl) (by kernel_rfl) (by kernel_rfl) (fun _ _ _ h => h) (by kernel_rfl) hHeld ?_
        simp only [Act.put, List.setIfInBounds_toArray, List.set_cons_zero, List.set_cons_succ]
        refine skipH 5 16 rfl rfl (by kernel_rfl) (by kernel_rfl) (by kernel_rfl) (fun _ _ _ h => h) (by kernel_rfl) hHeld ?_
        simp only [Act.put, List.setIfInBounds_toArray, List.set_cons_zero, List.set_cons_succ]
        refine skipH 6 17 rfl rfl (by kernel_rfl) (by kernel_rfl) (by kernel_rfl) (fun _ _ _ h => h) (by kernel_rfl) hHeld ?_
        simp only [Act.put, List.setIfInBounds_toArray, List.set_cons_zero, List.set_cons_succ]
        refine skipH 7 18 rfl rfl (by kernel_rfl) (by kernel_rfl) (by kernel_rfl) (fun _ _ _ h => h) (by kernel_rfl) hHeld ?_
        simp only [Act.put, List.setIfInBounds_toArray, List.set_cons_zero, List.set_cons_succ]
        refine skipH 8 19 rfl rfl (by kernel_rfl) (by kernel_rfl) (by kernel_rfl) (fun _ _ _ h => h) (by kernel_rfl) hHeld ?_
        simp only [Act.put, List.setIfInBounds_toArray, List.set_cons_zero, List.set_cons_succ]
        refine skipH 9 20 rfl rfl (by kernel_rfl) (by kernel_rfl) (by kernel_rfl) (fun _ _ _ h => h) (by kernel_rfl) hHeld ?_
        simp only [Act.put, List.setIfInBounds_toArray, List.set_cons_zero, List.set_cons_succ]
        refine skipH 10 21 rfl rfl (by kernel_rfl) (by kernel_rfl) (by kernel_rfl) (fun _ _ _ h => h) (by kernel_rfl) hHeld ?_
        simp only [Act.put, List.setIfInBounds_toArray, List.set_cons_zero, List.set_cons_succ]
        refine skipH 11 22 rfl rfl (by kernel_rfl) (by kernel_rfl) (by kernel_rfl) (fun _ _ _ h => h) (by kernel_rfl) hHeld ?_
        simp only [Act.put, List.setIfInBounds_toArray, List.set_cons_zero, List.set_cons_succ]
        refine skipH 12 23 rfl rfl (by kernel_rfl) (by kernel_rfl) (by kernel_rfl) (fun _ _ _ h => h) (by kernel_rfl) hHeld ?_
        simp only [Act.put, List.setIfInBounds_toArray, List.set_cons_zero, List.set_cons_succ]
        refine takeH 13 24 (.bool true) rfl rfl (by kernel_rfl) (by kernel_rfl) (by kernel_rfl) (fun _ _ _ h => h) (by kernel_rfl) (fun X hX => by clear hX; first | rfl | go_simp) hHeld ?_
        simp only [Act.put, List.setIfInBounds_toArray, List.set_cons_zero, List.set_cons_succ]
        refine wpAnyH_done (by kernel_rfl) ?_ _
        clear hHeld
        go_wp2_with fail
        go_ret
        exact Did.mk (by rw [Hd.out]; rfl) KM.out.drew.2
      · have e60 : ((i : Int) == 60) = false := by rw [beq_eq_false_iff_ne]; omega
        rw [decide_eq_false h60, Bool.false_or] at Hbi
        clear h60
        go_upto_region 4 with fail
        refine wp_region_held_drew (S := fun X => Mem w X [(G, pbc x, 34)]) (by kernel_rfl) KM.out.drew (fun hHeld => ?_)
        refine takeH 0 11 (.int .i64 i) rfl rfl (by kernel_rfl) (by kernel_rfl) (by kernel_rfl) (fun _ _ _ h => h) (by kernel_rfl) (fun X hX => by clear hX; first | rfl | go_simp) hHeld ?_
        simp only [Act.put, List.setIfInBounds_toArray, List.set_cons_zero, List.set_cons_succ]
        refine takeH 1 12 (.bool false) rfl rfl (by kernel_rfl) (by kernel_rfl) (by kernel_rfl) (fun _ _ _ h => h) (by kernel_rfl) (fun X hX => by clear hX; first | rfl | go_simp) hHeld ?_
        simp only [Act.put, List.setIfInBounds_toArray, List.set_cons_zero, List.set_cons_succ]
        refine takeH 2 13 (.bool false) rfl rfl (by kernel_rfl) (by kernel_rfl) (by kernel_rfl) (fun _ _ _ h => h) (by kernel_rfl) (fun X hX => by clear hX; first | rfl | go_simp) hHeld ?_
        simp only [Act.put, List.setIfInBounds_toArray, List.set_cons_zero, List.set_cons_succ]
        refine takeH 3 14 (.pointer (some ⟨G, 7, none⟩)) rfl rfl (by kernel_rfl) (by kernel_rfl) (by kernel_rfl) (fun _ _ _ h => h) (by kernel_rfl) (fun X hX => by clear hX; first | rfl | go_simp) hHeld ?_
        simp only [Act.put, List.setIfInBounds_toArray, List.set_cons_zero, List.set_cons_succ]
        refine takeH 4 15 (.slice x.r3 x.cl.length x.c3) rfl rfl (by kernel_rfl) (by kernel_rfl) (by kernel_rfl) (fun _ _ _ h => h) (by kernel_rfl) (fun X hX => by obtain ⟨p0, p1, p2, p3, p4, p5, p6, p7, p8, p9, p10, p11, p12, p13, p14⟩ := Hcell.out _ hX; clear hX; go_simp) hHeld ?_
        simp only [Act.put, List.setIfInBounds_toArray, List.set_cons_zero, List.set_cons_succ]
        refine takeH 5 16 (.int .i64 (x.cl.length : Nat)) rfl rfl (by kernel_rfl) (by kernel_rfl) (by kernel_rfl) (fun _ _ _ h => h) (by kernel_rfl) (fun X hX => by clear hX; first | rfl | go_simp) hHeld ?_
        simp only [Act.put, List.setIfInBounds_toArray, List.set_cons_zero, List.set_cons_succ]
        refine takeH 6 17 (.pointer (some ⟨G, 10, none⟩)) rfl rfl (by kernel_rfl) (by kernel_rfl) (by kernel_rfl) (fun _ _ _ h => h) (by kernel_rfl) (fun X hX => by clear hX; first | rfl | go_simp) hHeld ?_
        simp only [Act.put, List.setIfInBounds_toArray, List.set_cons_zero, List.set_cons_succ]
        refine takeH 7 18 (.slice (some ad) N x.c6) rfl rfl (by kernel_rfl) (by kernel_rfl) (by kernel_rfl) (fun _ _ _ h => h) (by kernel_rfl) (fun X hX => by obtain ⟨p0, p1, p2, p3, p4, p5, p6, p7, p8, p9, p10, p11, p12, p13, p14⟩ := Hcell.out _ hX; rw [hN, e0] at p10; clear hX; go_simp) hHeld ?_
        simp only [Act.put, List.setIfInBounds_toArray, List.set_cons_zero, List.set_cons_succ]
        refine takeH 8 19 (.int .i64 i) rfl rfl (by kernel_rfl) (by kernel_rfl) (by kernel_rfl) (fun _ _ _ h => h) (by kernel_rfl) (fun X hX => by clear hX; first | rfl | go_simp) hHeld ?_
        simp only [Act.put, List.setIfInBounds_toArray, List.set_cons_zero, List.set_cons_succ]
        refine takeH 9 20 (.pointer (some (ad.add (i * 6)))) rfl rfl (by kernel_rfl) (by kernel_rfl) (by kernel_rfl) (fun _ _ _ h => h) (by kernel_rfl) (fun X hX => by clear hX; first | rfl | go_simp) hHeld ?_
        simp only [Act.put, List.setIfInBounds_toArray, List.set_cons_zero, List.set_cons_succ]
        refine takeH 10 21 (.agg #[.int .i64 y.x.k, .slice y.r y.x.l.length y.c, .int .i64 y.x.a, .int .i64 y.x.b, .bool y.x.h, .int .i64 y.x.c]) rfl rfl (by kernel_rfl) (by kernel_rfl) (by kernel_rfl) (fun _ _ _ h => h) (by kernel_rfl) (fun X hX => by obtain ⟨e_0, e_1, e_2, e_3, e_4, e_5⟩ := Hrow.out _ hX.2; clear hX; go_simp) hHeld ?_
        simp only [Act.put, List.setIfInBounds_toArray, List.set_cons_zero, List.set_cons_succ]
        have K1 := hid KM.out.drew
        refine wpAnyH_ready (rs := [11]) (by kernel_rfl) (by simp) ?_
        refine AllReadyH.cons rfl (fun KK hK => ?_) AllReadyH.nil
        simp only [List.getElem_toArray, List.getElem_cons_succ, List.getElem_cons_zero]
        go_simp
        refine (HCy.out _ K1.out.2).mono ?_
        rintro e Y ⟨rfl, bz⟩
        have K4 := hid (K1.out.next bz)
        refine hK.out _ _ K4.out (fun hHeld => ?_)
        clear hK KK
        try simp only [Act.put, List.setIfInBounds_toArray, List.set_cons_zero, List.set_cons_succ]
        refine takeH 12 23 (.bool (!q)) rfl rfl (by kernel_rfl) (by kernel_rfl) (by kernel_rfl) (fun _ _ _ h => h) (by kernel_rfl) (fun X hX => by clear hX; first | rfl | go_simp) hHeld ?_
        simp only [Act.put, List.setIfInBounds_toArray, List.set_cons_zero, List.set_cons_succ]
        refine takeH 13 24 (.bool (!q)) rfl rfl (by kernel_rfl) (by kernel_rfl) (by kernel_rfl) (fun _ _ _ h => h) (by kernel_rfl) (fun X hX => by clear hX; first | rfl | go_simp) hHeld ?_
        simp only [Act.put, List.setIfInBounds_toArray, List.set_cons_zero, List.set_cons_succ]
        refine wpAnyH_done (by kernel_rfl) ?_ _
        clear hHeld
        cases q with
        | false =>
          have Hd := hid (Hs.out i hlt (by rw [Hbi.out]; rfl) HA.out)
          go_wp2_with fail
          go_ret
          exact Did.mk (by rw [Hd.out]; rfl) K4.out.2
        | true =>
          go_wp2_with fail
          exact ⟨⟨i + 1, by go_num, by omega, hid (fun j hj => by
            rcases Nat.lt_succ_iff_lt_or_eq.1 hj with h | rfl
            · exact HA.out j h
            · exact Hbi.out), K4⟩, by simp [intOf]; omega⟩
    · obtain rfl : i = N := by omega
      have i2 : ¬ (i : Int) < (i : Int) := by omega
      have Hd := hid (Hn.out HA.out)
      go_wp2_with fail
      go_ret
      exact Did.mk (by rw [Hd.out]; rfl) KM.out.2
/-! ### what is wrong first -/
def rmI (p : Pb) : Int := fst17 (p.rm.map (·.n)) (p.rm.map (rmRight p.g)) 24
def psI (p : Pb) : Int := fst17 (p.ps.map (·.n)) (p.ps.map fun y => rmRight p.g (rmOf y)) 24
def clI (p : Pb) : Int := fst17 (p.cl.map (·.n)) (p.cl.map (clRight p.g (p.rm.length : Nat) (p.ps.length : Nat) (p.cl.length : Nat))) 40
def csI (p : Pb) : Int := fst17 (p.cs.map (·.n)) (p.cs.map (csRight (p.cl.length : Nat))) 16
def stI (p : Pb) : Int := fst17 (p.st.map (·.n)) (p.st.map (stB (p.cs.length : Nat))) 200
def rlI (p : Pb) : Int := frl17 (p.cl.length : Nat) p.rl
def chkG (nk rg : Bool) (i0 : Int) (wk : Bool) (n i1 i2 i3 i4 i5 : Int) (wt : Bool) : Int × Int :=
  if nk = false then (18, 0) else if rg = false then (10, 0) else if 0 ≤ i0 then (11, i0) else if wk = false then (11, n) else if 0 ≤ i1 then (12, i1) else if 0 ≤ i2 then (13, i2) else
  if 0 ≤ i3 then (14, i3) else if 0 ≤ i4 then (15, i4) else if 0 ≤ i5 then (16, i5) else if wt = false then (17, 0) else (0, 0)
/-- what is wrong first, and its number -/
def chk (p : Pb) : Int × Int := chkG (nameOk p.n) (Whn.rgrid p.g) (rmI p) (rwOk (p.rm.length : Nat) p.wk) (p.rm.length : Nat) (psI p) (clI p) (csI p) (stI p) (rlI p) (wtB [p.w0, p.w1, p.w2, p.w3])
/-- not too great -/
def PbFew (x : PbA) : Prop := x.rm.length ≤ 1000 ∧ x.wk.length ≤ 1000 ∧ x.ps.length ≤ 1000 ∧ x.cl.length ≤ 1000 ∧ x.cs.length ≤ 1000 ∧ x.st.length ≤ 1000 ∧ x.rl.length ≤ 1000
theorem r17_roomsI (x : PbA) (w : World) (h : PbIn w x) (hf : PbFew x) : Calls Tryz.prog 50 #[pbv x] w (Did (.int .i64 (rmI x.p)) w) := by
  have := r17_rooms x w h hf.1
  unfold rmI PbA.p
  simp only [List.map_map]
  exact this
theorem r17_personsI (x : PbA) (w : World) (h : PbIn w x) (hf : PbFew x) : Calls Tryz.prog 52 #[pbv x] w (Did (.int .i64 (psI x.p)) w) := by
  have := r17_persons x w h hf.2.2.1
  unfold psI PbA.p
  simp only [List.map_map]
  exact this
theorem r17_classesI (x : PbA) (w : World) (h : PbIn w x) (hf : PbFew x) : Calls Tryz.prog 53 #[pbv x] w (Did (.int .i64 (clI x.p)) w) := by
  have := r17_classes x w h hf.2.2.2.1
  unfold clI PbA.p
  simp only [List.map_map, List.length_map]
  exact this
theorem r17_coursesI (x : PbA) (w : World) (h : PbIn w x) (hf : PbFew x) : Calls Tryz.prog 54 #[pbv x] w (Did (.int .i64 (csI x.p)) w) := by
  have := r17_courses x w h hf.2.2.2.2.1
  unfold csI PbA.p
  simp only [List.map_map, List.length_map]
  exact this
theorem r17_studentsI (x : PbA) (w : World) (h : PbIn w x) (hf : PbFew x) : Calls Tryz.prog 55 #[pbv x] w (Did (.int .i64 (stI x.p)) w) := by
  have := r17_students x w h hf.2.2.2.2.2.1
  unfold stI PbA.p
  simp only [List.map_map, List.length_map]
  exact this
theorem r17_rulesI (x : PbA) (w : World) (h : PbIn w x) (hf : PbFew x) : Calls Tryz.prog 56 #[pbv x] w (Did (.int .i64 (rlI x.p)) w) := by
  have := r17_rules x w h hf.2.2.2.2.2.2
  unfold rlI PbA.p
  simp only [List.length_map]
  exact this
set_option maxRecDepth 20000 in
set_option maxHeartbeats 8000000 in
theorem r17_Check (x : PbA) (w : World) (h : PbIn w x) (hf : PbFew x) : Calls Tryz.prog 13 #[pbv x] w (Did (.tuple #[.int .i64 (chk x.p).1, .int .i64 (chk x.p).2]) w) := by
  have HNm := hid (fun X => r_Name (bs x.n) X)
  rw [bs_data] at HNm
  have HGr := hid (fun X => r_RightGrid x.g X)
  have H0 := hid (fun X (hb : Below w.heap.size w X) => r17_roomsI x X (h.next hb) hf)
  have H1 := hid (fun X (hb : Below w.heap.size w X) => r17_personsI x X (h.next hb) hf)
  have H2 := hid (fun X (hb : Below w.heap.size w X) => r17_classesI x X (h.next hb) hf)
  have H3 := hid (fun X (hb : Below w.heap.size w X) => r17_coursesI x X (h.next hb) hf)
  have H4 := hid (fun X (hb : Below w.heap.size w X) => r17_studentsI x X (h.next hb) hf)
  have H5 := hid (fun X (hb : Below w.heap.size w X) => r17_rulesI x X (h.next hb) hf)
  have HWk := hid (fun X (hb : Below w.heap.size w X) => r_RightWalk x.r1 x.c1 x.wk (by have := h.wkC; omega) (fun l hl => (h.wkI l hl).1) (x.rm.length : Nat) X ((h.wk.below hb (Nat.le_refl _)).more hb.size))
  have HWt := hid (fun X => r17_weigh x.w0 x.w1 x.w2 x.w3 X)
  have Hr := hid (show chk x.p = chkG (nameOk x.n) (Whn.rgrid x.g) (rmI x.p) (rwOk (x.rm.length : Nat) x.wk) (x.rm.length : Nat) (psI x.p) (clI x.p) (csI x.p) (stI x.p) (rlI x.p) (wtB [x.w0, x.w1, x.w2, x.w3]) from by
    unfold chk PbA.p
    simp only [List.length_map])
  generalize chk x.p = rr at *
  generalize nameOk x.n = nk at *
  generalize Whn.rgrid x.g = rg at *
  generalize rwOk (x.rm.length : Nat) x.wk = wk at *
  generalize wtB [x.w0, x.w1, x.w2, x.w3] = wt at *
  generalize rmI x.p = i0 at *
  generalize psI x.p = i1 at *
  generalize clI x.p = i2 at *
  generalize csI x.p = i3 at *
  generalize stI x.p = i4 at *
  generalize rlI x.p = i5 at *
  obtain ⟨G, W, hG, hW, K, hb0⟩ := (Mem.nil w).one (pbc x) 34
  have Hcell := hid (fun X (h : Mem w X [(G, pbc x, 34)]) => h.pb (B := G) (x := x) (t := 34) (by simp))
  obtain ⟨p0, p1, p2, p3, p4, p5, p6, p7, p8, p9, p10, p11, p12, p13, p14⟩ := Hcell.out _ K.out
  clear h hb0 hf
  go_enter Tryz.func13, Tryz.ntmps13
  go_wp2_with fail
  refine (HNm.out _).mono ?_
  rintro e Y ⟨rfl, rfl⟩
  cases nk with
  | false =>
    have Hd := hid (Hr.out.trans (show chkG false _ _ _ _ _ _ _ _ _ _ = (18, 0) from rfl))
    clear Hr
    go_wp2_with fail
    go_ret2
    exact Did.mk (by rw [Hd.out]; rfl) K.out.2
  | true =>
    go_wp2_with fail
    refine (HGr.out _).mono ?_
    rintro e Y ⟨rfl, bz⟩
    have K0 := hid (K.out.next bz)
    clear p0 p1 p2 p3 p4 p5 p6 p7 p8 p9 p10 p11 p12 p13 p14 bz
    obtain ⟨p0, p1, p2, p3, p4, p5, p6, p7, p8, p9, p10, p11, p12, p13, p14⟩ := Hcell.out _ K0.out
    cases rg with
    | false =>
      have Hd := hid (Hr.out.trans (show chkG true false _ _ _ _ _ _ _ _ _ = (10, 0) from rfl))
      clear Hr
      go_wp2_with fail
      go_ret2
      exact Did.mk (by rw [Hd.out]; rfl) K0.out.2
    | true =>
      go_wp2_with fail
      refine (H0.out _ K0.out.2).mono ?_
      rintro e Y ⟨rfl, bz⟩
      have K1 := hid (K0.out.next bz)
      clear p0 p1 p2 p3 p4 p5 p6 p7 p8 p9 p10 p11 p12 p13 p14 bz
      obtain ⟨p0, p1, p2, p3, p4, p5, p6, p7, p8, p9, p10, p11, p12, p13, p14⟩ := Hcell.out _ K1.out
      by_cases h0 : 0 ≤ i0
      · have Hd := hid (show rr = (11, i0) from by rw [Hr.out]; unfold chkG; simp only [if_pos h0, if_neg (show ¬ true = false by decide)])
        clear Hr
        go_wp2_with fail
        go_ret2
        exact Did.mk (by rw [Hd.out]; rfl) K1.out.2
      have N0 := hid h0
      go_wp2_with fail
      refine (HWk.out _ K1.out.2).mono ?_
      rintro e Y ⟨rfl, bz⟩
      have KW := hid (K1.out.next bz)
      clear p0 p1 p2 p3 p4 p5 p6 p7 p8 p9 p10 p11 p12 p13 p14 bz
      obtain ⟨p0, p1, p2, p3, p4, p5, p6, p7, p8, p9, p10, p11, p12, p13, p14⟩ := Hcell.out _ KW.out
      cases wk with
      | false =>
        have Hd := hid (show rr = (11, ((x.rm.length : Nat) : Int)) from by rw [Hr.out]; unfold chkG; simp only [if_neg (show ¬ 0 ≤ i0 by have := N0.out; omega), if_neg (show ¬ true = false by decide), if_true])
        clear Hr
        go_upto_region 9 with fail
        refine wp_region_held_drew (S := fun X => Mem w X [(G, pbc x, 34)]) (by kernel_rfl) KW.out.drew (fun hHeld => ?_)
        refine takeH 0 30 (.pointer (some ⟨G, 4, none⟩)) rfl rfl (by kernel_rfl) (by kernel_rfl) (by kernel_rfl) (fun _ _ _ h => h) (by kernel_rfl) (fun X hX => by clear hX; first | rfl | go_simp) hHeld ?_
        simp only [Act.put, List.setIfInBounds_toArray, List.set_cons_zero, List.set_cons_succ]
        refine takeH 1 31 (.slice x.r0 x.rm.length x.c0) rfl rfl (by kernel_rfl) (by kernel_rfl) (by kernel_rfl) (fun _ _ _ h => h) (by kernel_rfl) (fun X hX => by obtain ⟨p0, p1, p2, p3, p4, p5, p6, p7, p8, p9, p10, p11, p12, p13, p14⟩ := Hcell.out _ hX; clear hX; go_simp) hHeld ?_
        simp only [Act.put, List.setIfInBounds_toArray, List.set_cons_zero, List.set_cons_succ]
        refine takeH 2 32 (.int .i64 (x.rm.length : Nat)) rfl rfl (by kernel_rfl) (by kernel_rfl) (by kernel_rfl) (fun _ _ _ h => h) (by kernel_rfl) (fun X hX => by clear hX; first | rfl | go_simp) hHeld ?_
        simp only [Act.put, List.setIfInBounds_toArray, List.set_cons_zero, List.set_cons_succ]
        refine wpAnyH_ready (rs := [3]) (by kernel_rfl) (by simp) ?_
        refine AllReadyH.cons rfl (fun KK hK => ?_) AllReadyH.nil
        simp only [List.getElem_toArray, List.getElem_cons_succ, List.getElem_cons_zero]
        go_simp
        refine hK.out _ _ KW.out.drew (fun hHeld => ?_)
        clear hK KK
        try simp only [Act.put, List.setIfInBounds_toArray, List.set_cons_zero, List.set_cons_succ]
        refine wpAnyH_ready (rs := [4]) (by kernel_rfl) (by simp) ?_
        refine AllReadyH.cons rfl (fun KK hK => ?_) AllReadyH.nil
        simp only [List.getElem_toArray, List.getElem_cons_succ, List.getElem_cons_zero]
        go_simp
        refine hK.out _ _ KW.out.drew (fun hHeld => ?_)
        clear hK KK
        try simp only [Act.put, List.setIfInBounds_toArray, List.set_cons_zero, List.set_cons_succ]
        refine wpAnyH_done (by kernel_rfl) ?_ _
        clear hHeld
        go_wp2_with fail
        go_ret2
        exact Did.mk (by rw [Hd.out]; rfl) KW.out.drew.2
      | true =>
        go_wp2_with fail
        refine (H1.out _ KW.out.2).mono ?_
        rintro e Y ⟨rfl, bz⟩
        have K2 := hid (KW.out.next bz)
        clear p0 p1 p2 p3 p4 p5 p6 p7 p8 p9 p10 p11 p12 p13 p14 bz
        obtain ⟨p0, p1, p2, p3, p4, p5, p6, p7, p8, p9, p10, p11, p12, p13, p14⟩ := Hcell.out _ K2.out
        by_cases h1 : 0 ≤ i1
        · have Hd := hid (show rr = (12, i1) from by rw [Hr.out]; unfold chkG; simp only [if_pos h1, if_neg (show ¬ 0 ≤ i0 by have := N0.out; omega), if_neg (show ¬ true = false by decide)])
          clear Hr
          go_wp2_with fail
          go_ret2
          exact Did.mk (by rw [Hd.out]; rfl) K2.out.2
        have N1 := hid h1
        go_wp2_with fail
        refine (H2.out _ K2.out.2).mono ?_
        rintro e Y ⟨rfl, bz⟩
        have K3 := hid (K2.out.next bz)
        clear p0 p1 p2 p3 p4 p5 p6 p7 p8 p9 p10 p11 p12 p13 p14 bz
        obtain ⟨p0, p1, p2, p3, p4, p5, p6, p7, p8, p9, p10, p11, p12, p13, p14⟩ := Hcell.out _ K3.out
        by_cases h2 : 0 ≤ i2
        · have Hd := hid (show rr = (13, i2) from by rw [Hr.out]; unfold chkG; simp only [if_pos h2, if_neg (show ¬ 0 ≤ i0 by have := N0.out; omega), if_neg (show ¬ 0 ≤ i1 by have := N1.out; omega), if_neg (show ¬ true = false by decide)])
          clear Hr
          go_wp2_with fail
          go_ret2
          exact Did.mk (by rw [Hd.out]; rfl) K3.out.2
        have N2 := hid h2
        go_wp2_with fail
        refine (H3.out _ K3.out.2).mono ?_
        rintro e Y ⟨rfl, bz⟩
        have K4 := hid (K3.out.next bz)
        clear p0 p1 p2 p3 p4 p5 p6 p7 p8 p9 p10 p11 p12 p13 p14 bz
        obtain ⟨p0, p1, p2, p3, p4, p5, p6, p7, p8, p9, p10, p11, p12, p13, p14⟩ := Hcell.out _ K4.out
        by_cases h3 : 0 ≤ i3
        · have Hd := hid (show rr = (14, i3) from by rw [Hr.out]; unfold chkG; simp only [if_pos h3, if_neg (show ¬ 0 ≤ i0 by have := N0.out; omega), if_neg (show ¬ 0 ≤ i1 by have := N1.out; omega), if_neg (show ¬ 0 ≤ i2 by have := N2.out; omega), if_neg (show ¬ true = false by decide)])
          clear Hr
          go_wp2_with fail
          go_ret2
          exact Did.mk (by rw [Hd.out]; rfl) K4.out.2
        have N3 := hid h3
        go_wp2_with fail
        refine (H4.out _ K4.out.2).mono ?_
        rintro e Y ⟨rfl, bz⟩
        have K5 := hid (K4.out.next bz)
        clear p0 p1 p2 p3 p4 p5 p6 p7 p8 p9 p10 p11 p12 p13 p14 bz
        obtain ⟨p0, p1, p2, p3, p4, p5, p6, p7, p8, p9, p10, p11, p12, p13, p14⟩ := Hcell.out _ K5.out
        by_cases h4 : 0 ≤ i4
        · have Hd := hid (show rr = (15, i4) from by rw [Hr.out]; unfold chkG; simp only [if_pos h4, if_neg (show ¬ 0 ≤ i0 by have := N0.out; omega), if_neg (show ¬ 0 ≤ i1 by have := N1.out; omega), if_neg (show ¬ 0 ≤ i2 by have := N2.out; omega), if_neg (show ¬ 0 ≤ i3 by have := N3.out; omega), if_neg (show ¬ true = false by decide)])
          clear Hr
          go_wp2_with fail
          go_ret2
          exact Did.mk (by rw [Hd.out]; rfl) K5.out.2
        have N4 := hid h4
        go_wp2_with fail
        refine (H5.out _ K5.out.2).mono ?_
        rintro e Y ⟨rfl, bz⟩
        have K6 := hid (K5.out.next bz)
        clear p0 p1 p2 p3 p4 p5 p6 p7 p8 p9 p10 p11 p12 p13 p14 bz
        obtain ⟨p0, p1, p2, p3, p4, p5, p6, p7, p8, p9, p10, p11, p12, p13, p14⟩ := Hcell.out _ K6.out
        by_cases h5 : 0 ≤ i5
        · have Hd := hid (show rr = (16, i5) from by rw [Hr.out]; unfold chkG; simp only [if_pos h5, if_neg (show ¬ 0 ≤ i0 by have := N0.out; omega), if_neg (show ¬ 0 ≤ i1 by have := N1.out; omega), if_neg (show ¬ 0 ≤ i2 by have := N2.out; omega), if_neg (show ¬ 0 ≤ i3 by have := N3.out; omega), if_neg (show ¬ 0 ≤ i4 by have := N4.out; omega), if_neg (show ¬ true = false by decide)])
          clear Hr
          go_wp2_with fail
          go_ret2
          exact Did.mk (by rw [Hd.out]; rfl) K6.out.2
        have N5 := hid h5
        go_wp2_with fail
        refine (HWt.out _).mono ?_
        rintro e Y ⟨rfl, bz⟩
        have K7 := hid (K6.out.next bz)
        cases wt with
        | false =>
          have Hd := hid (show rr = (17, 0) from by rw [Hr.out]; unfold chkG; simp only [if_neg (show ¬ 0 ≤ i0 by have := N0.out; omega), if_neg (show ¬ 0 ≤ i1 by have := N1.out; omega), if_neg (show ¬ 0 ≤ i2 by have := N2.out; omega), if_neg (show ¬ 0 ≤ i3 by have := N3.out; omega), if_neg (show ¬ 0 ≤ i4 by have := N4.out; omega), if_neg (show ¬ 0 ≤ i5 by have := N5.out; omega), if_neg (show ¬ true = false by decide), if_true])
          clear Hr
          go_wp2_with fail
          go_ret2
          exact Did.mk (by rw [Hd.out]; rfl) K7.out.2
        | true =>
          have Hd := hid (show rr = (0, 0) from by rw [Hr.out]; unfold chkG; simp only [if_neg (show ¬ 0 ≤ i0 by have := N0.out; omega), if_neg (show ¬ 0 ≤ i1 by have := N1.out; omega), if_neg (show ¬ 0 ≤ i2 by have := N2.out; omega), if_neg (show ¬ 0 ≤ i3 by have := N3.out; omega), if_neg (show ¬ 0 ≤ i4 by have := N4.out; omega), if_neg (show ¬ 0 ≤ i5 by have := N5.out; omega), if_neg (show ¬ true = false by decide)])
          clear Hr
          go_wp2_with fail
          go_ret2
          exact Did.mk (by rw [Hd.out]; rfl) K7.out.2
/-- may a problem be? -/
def pbR (p : Pb) : Bool := decide ((chk p).1 = 0)
set_option maxRecDepth 20000 in
theorem r17_Right (x : PbA) (w : World) (h : PbIn w x) (hf : PbFew x) : Calls Tryz.prog 104 #[pbv x] w (Did (.bool (pbR x.p)) w) := by
  have HC := hid (fun X (hb : Below w.heap.size w X) => r17_Check x X (h.next hb) hf)
  have Hr := hid (show pbR x.p = decide ((chk x.p).1 = 0) from rfl)
  generalize pbR x.p = rr at *
  generalize (chk x.p).1 = e1 at *
  generalize (chk x.p).2 = e2 at *
  obtain ⟨G, W, hG, hW, K, hb0⟩ := (Mem.nil w).one (pbc x) 34
  obtain ⟨p0, p1, p2, p3, p4, p5, p6, p7, p8, p9, p10, p11, p12, p13, p14⟩ := K.out.pb (B := G) (x := x) (t := 34) (by simp)
  have hq := deq e1
  clear h hb0 hf
  go_enter Tryz.func104, Tryz.ntmps104
  go_wp2_with fail
  refine (HC.out _ K.out.2).mono ?_
  rintro e Y ⟨rfl, bz⟩
  have K1 := hid (K.out.next bz)
  clear p0 p1 p2 p3 p4 p5 p6 p7 p8 p9 p10 p11 p12 p13 p14
  go_wp2_with fail
  go_ret
  exact Did.mk (by rw [Hr.out, hq]; rfl) K1.out.2
end Go.Proofs.YtgmgccepmalahaaGreat
