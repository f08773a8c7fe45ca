/- The document's own answers for layer 17 (problem): Few. -/
import Derived.Test.YtgmgccepmalahaaGreatPqJ
namespace Go.Proofs.YtgmgccepmalahaaGreat
open Go.RowKit
open Whn (Gr Wh)

/-- tells true of a problem of few rows, and of few persons, alone -/
def PbFew2 (x : PbA) : Prop := PbFew x ∧ x.ps.length ≤ 30
def FewRet2 (x : PbA) (w : World) (e : Ending) (w' : World) : Prop := ∃ b, e = .returned (.bool b) ∧ (b = true → PbFew2 x) ∧ Below w.heap.size w w'
set_option maxRecDepth 40000 in
set_option maxHeartbeats 16000000 in
theorem r17_Few2 (x : PbA) (w : World) (h : PbIn w x) : Calls Tryz.prog 10 #[pbv x] w (FewRet2 x w) := by
  have HI := hid h
  obtain ⟨G, W, hG, hW, K, hb0⟩ := (Mem.nil w).one (pbc x) 34
  have Hcell := hid (fun X (h : Mem w X [(G, pbc x, 34)]) => h.pb (B := G) (x := x) (t := 34) (by simp))
  obtain ⟨p0, p1, p2, p3, p4, p5, p6, p7, p8, p9, p10, p11, p12, p13, p14⟩ := Hcell.out _ K.out
  clear h hb0
  go_enter Tryz.func10, Tryz.ntmps10
  go_upto_region 1 with fail
  go_cut [52] (fun s wx => ∃ b, s = .bool b ∧ Hid (b = false → PbFew2 x) ∧ W = wx)
  case first =>
    by_cases h0 : 30 < (x.rm.length : Int)
    · go_wp2_with fail
      go_meet
      exact ⟨true, rfl, hid (fun h => by cases h), rfl⟩
    by_cases h1 : 40 < (x.wk.length : Int)
    · go_wp2_with fail
      go_meet
      exact ⟨true, rfl, hid (fun h => by cases h), rfl⟩
    by_cases h2 : 30 < (x.ps.length : Int)
    · go_wp2_with fail
      go_meet
      exact ⟨true, rfl, hid (fun h => by cases h), rfl⟩
    by_cases h3 : 50 < (x.cl.length : Int)
    · go_wp2_with fail
      go_meet
      exact ⟨true, rfl, hid (fun h => by cases h), rfl⟩
    by_cases h4 : 20 < (x.cs.length : Int)
    · go_wp2_with fail
      go_meet
      exact ⟨true, rfl, hid (fun h => by cases h), rfl⟩
    by_cases h5 : 210 < (x.st.length : Int)
    · go_wp2_with fail
      go_meet
      exact ⟨true, rfl, hid (fun h => by cases h), rfl⟩
    by_cases h6 : 70 < (x.rl.length : Int)
    · go_wp2_with fail
      go_meet
      exact ⟨true, rfl, hid (fun h => by cases h), rfl⟩
    have HF := hid (show PbFew2 x from by unfold PbFew2 PbFew; omega)
    go_wp2_with fail
    go_meet
    exact ⟨false, rfl, hid (fun _ => HF.out), rfl⟩
  case rest =>
    revert wc
    intro wc hcut
    obtain ⟨b, rfl, HF, rfl⟩ := hcut
    cases b with
    | true =>
      go_wp2_with fail
      go_ret
      exact ⟨false, rfl, (fun h => by cases h), K.out.2⟩
    | false =>
      have HF2 := hid (HF.out rfl)
      clear HF
      go_wp2_with fail
      go_loopw [3, 4] (fun nv iv wr => ∃ (i : Nat) (n : Int), iv = .int .i64 i ∧ i ≤ x.rm.length ∧ nv = .int .i64 n ∧ Hid (Mem w wr [(G, pbc x, 34)])) (fun _ iv _ => x.rm.length - (intOf iv).toNat)
      case atStart => exact ⟨0, _, rfl, Nat.zero_le _, rfl, K⟩
      case round =>
        clear K
        clear p0 p1 p2 p3 p4 p5 p6 p7 p8 p9 p10 p11 p12 p13 p14
        obtain ⟨i, n, rfl, hi, rfl, KM⟩ := hrel
        obtain ⟨p0, p1, p2, p3, p4, p5, p6, p7, p8, p9, p10, p11, p12, p13, p14⟩ := Hcell.out _ KM.out
        have hF := HF2.out
        unfold PbFew2 PbFew at hF
        by_cases hlt : i < x.rm.length
        · skip
          obtain ⟨ad, y, e0, had, hy, hyl, _⟩ := Es.get enR_len (by decide) (HI.out.rm.below KM.out.2 (Nat.le_refl _)) hlt
          have hq := HI.out.rm.below KM.out.2 (Nat.le_refl _)
          rw [e0] at hq p4
          have hc3 := es_fld enR_len hq hy.out 3 (by decide) _ rfl
          have i1 : (0 : Int) ≤ (i : Int) := by omega
          have i2 : (i : Int) < (x.rm.length : Int) := by omega
          clear hq
          go_wp2_with fail
          exact ⟨⟨i + 1, _, by go_num, by omega, rfl, KM⟩, by simp [intOf]; omega⟩
        · obtain rfl : i = x.rm.length := by omega
          have i2 : ¬ (x.rm.length : Int) < (x.rm.length : Int) := by omega
          clear hlt
          go_wp2_with fail
          go_loopw [3, 5] (fun nv iv wr => ∃ (i : Nat) (n : Int), iv = .int .i64 i ∧ i ≤ x.wk.length ∧ nv = .int .i64 n ∧ Hid (Mem w wr [(G, pbc x, 34)])) (fun _ iv _ => x.wk.length - (intOf iv).toNat)
          case atStart => exact ⟨0, _, rfl, Nat.zero_le _, rfl, KM⟩
          case round =>
            clear KM
            clear p0 p1 p2 p3 p4 p5 p6 p7 p8 p9 p10 p11 p12 p13 p14
            obtain ⟨i, n, rfl, hi, rfl, KM⟩ := hrel
            obtain ⟨p0, p1, p2, p3, p4, p5, p6, p7, p8, p9, p10, p11, p12, p13, p14⟩ := Hcell.out _ KM.out
            have hF := HF2.out
            unfold PbFew2 PbFew at hF
            by_cases hlt : i < x.wk.length
            · skip
              obtain ⟨ad, Ak, ck, l, e0, had, hy, hyl, hc, _, _⟩ := Rows2.get (HI.out.wk.below KM.out.2 (Nat.le_refl _)) hlt
              rw [e0] at p5
              have i1 : (0 : Int) ≤ (i : Int) := by omega
              have i2 : (i : Int) < (x.wk.length : Int) := by omega
              go_wp2_with fail
              exact ⟨⟨i + 1, _, by go_num, by omega, rfl, KM⟩, by simp [intOf]; omega⟩
            · obtain rfl : i = x.wk.length := by omega
              have i2 : ¬ (x.wk.length : Int) < (x.wk.length : Int) := by omega
              clear hlt
              go_wp2_with fail
              go_loopw [3, 6] (fun nv iv wr => ∃ (i : Nat) (n : Int), iv = .int .i64 i ∧ i ≤ x.ps.length ∧ nv = .int .i64 n ∧ Hid (Mem w wr [(G, pbc x, 34)])) (fun _ iv _ => x.ps.length - (intOf iv).toNat)
              case atStart => exact ⟨0, _, rfl, Nat.zero_le _, rfl, KM⟩
              case round =>
                clear KM
                clear p0 p1 p2 p3 p4 p5 p6 p7 p8 p9 p10 p11 p12 p13 p14
                obtain ⟨i, n, rfl, hi, rfl, KM⟩ := hrel
                obtain ⟨p0, p1, p2, p3, p4, p5, p6, p7, p8, p9, p10, p11, p12, p13, p14⟩ := Hcell.out _ KM.out
                have hF := HF2.out
                unfold PbFew2 PbFew at hF
                by_cases hlt : i < x.ps.length
                · skip
                  obtain ⟨ad, y, e0, had, hy, hyl, _⟩ := Es.get enQ_len (by decide) (HI.out.ps.below KM.out.2 (Nat.le_refl _)) hlt
                  have hq := HI.out.ps.below KM.out.2 (Nat.le_refl _)
                  rw [e0] at hq p6
                  have hc1 := es_fld enQ_len hq hy.out 1 (by decide) _ rfl
                  have i1 : (0 : Int) ≤ (i : Int) := by omega
                  have i2 : (i : Int) < (x.ps.length : Int) := by omega
                  clear hq
                  go_wp2_with fail
                  exact ⟨⟨i + 1, _, by go_num, by omega, rfl, KM⟩, by simp [intOf]; omega⟩
                · obtain rfl : i = x.ps.length := by omega
                  have i2 : ¬ (x.ps.length : Int) < (x.ps.length : Int) := by omega
                  clear hlt
                  go_wp2_with fail
                  go_loopw [3, 7] (fun nv iv wr => ∃ (i : Nat) (n : Int), iv = .int .i64 i ∧ i ≤ x.cl.length ∧ nv = .int .i64 n ∧ Hid (Mem w wr [(G, pbc x, 34)])) (fun _ iv _ => x.cl.length - (intOf iv).toNat)
                  case atStart => exact ⟨0, _, rfl, Nat.zero_le _, rfl, KM⟩
                  case round =>
                    clear KM
                    clear p0 p1 p2 p3 p4 p5 p6 p7 p8 p9 p10 p11 p12 p13 p14
                    obtain ⟨i, n, rfl, hi, rfl, KM⟩ := hrel
                    obtain ⟨p0, p1, p2, p3, p4, p5, p6, p7, p8, p9, p10, p11, p12, p13, p14⟩ := Hcell.out _ KM.out
                    have hF := HF2.out
                    unfold PbFew2 PbFew at hF
                    by_cases hlt : i < x.cl.length
                    · skip
                      obtain ⟨ad, y, e0, had, hy, hyl, _⟩ := Es.get enC_len (by decide) (HI.out.cl.below KM.out.2 (Nat.le_refl _)) hlt
                      have hq := HI.out.cl.below KM.out.2 (Nat.le_refl _)
                      rw [e0] at hq p7
                      have hc3 := es_fld enC_len hq hy.out 3 (by decide) _ rfl
                      have hc4 := es_fld enC_len hq hy.out 4 (by decide) _ rfl
                      have hc5 := es_fld enC_len hq hy.out 5 (by decide) _ rfl
                      have i1 : (0 : Int) ≤ (i : Int) := by omega
                      have i2 : (i : Int) < (x.cl.length : Int) := by omega
                      clear hq
                      go_upto_region 19 with fail
                      refine wp_region_held_drew (S := fun X => Mem w X [(G, pbc x, 34)]) (by kernel_rfl) KM.out.drew (fun hHeld => ?_)
                      refine takeH 0 107 (.int .i64 n) rfl rfl (by kernel_rfl) (by kernel_rfl) (by kernel_rfl) (fun _ _ _ h => h) (by kernel_rfl) (fun X hX => by clear hX; first | rfl | go_simp) hHeld ?_
                      simp only [Act.put, List.setIfInBounds_toArray, List.set_cons_zero, List.set_cons_succ]
                      refine takeH 1 108 (.pointer (some ⟨G, 7, none⟩)) rfl rfl (by kernel_rfl) (by kernel_rfl) (by kernel_rfl) (fun _ _ _ h => h) (by kernel_rfl) (fun X hX => by clear hX; first | rfl | go_simp) hHeld ?_
                      simp only [Act.put, List.setIfInBounds_toArray, List.set_cons_zero, List.set_cons_succ]
                      refine takeH 2 109 (.slice (some ad) x.cl.length x.c3) rfl rfl (by kernel_rfl) (by kernel_rfl) (by kernel_rfl) (fun _ _ _ h => h) (by kernel_rfl) (fun X hX => by obtain ⟨p0, p1, p2, p3, p4, p5, p6, p7, p8, p9, p10, p11, p12, p13, p14⟩ := Hcell.out _ hX; rw [e0] at p7; clear hX; go_simp) hHeld ?_
                      simp only [Act.put, List.setIfInBounds_toArray, List.set_cons_zero, List.set_cons_succ]
                      refine takeH 3 110 (.int .i64 i) rfl rfl (by kernel_rfl) (by kernel_rfl) (by kernel_rfl) (fun _ _ _ h => h) (by kernel_rfl) (fun X hX => by clear hX; first | rfl | go_simp) hHeld ?_
                      simp only [Act.put, List.setIfInBounds_toArray, List.set_cons_zero, List.set_cons_succ]
                      refine takeH 4 111 (.pointer (some (ad.add (i * 7)))) rfl rfl (by kernel_rfl) (by kernel_rfl) (by kernel_rfl) (fun _ _ _ h => h) (by kernel_rfl) (fun X hX => by clear hX; first | rfl | go_simp) hHeld ?_
                      simp only [Act.put, List.setIfInBounds_toArray, List.set_cons_zero, List.set_cons_succ]
                      refine takeH 5 112 (.pointer (some ⟨(ad.add (i * 7)).block, (ad.add (i * 7)).off + 3, none⟩)) rfl rfl (by kernel_rfl) (by kernel_rfl) (by kernel_rfl) (fun _ _ _ h => h) (by kernel_rfl) (fun X hX => by clear hX; first | rfl | go_simp) hHeld ?_
                      simp only [Act.put, List.setIfInBounds_toArray, List.set_cons_zero, List.set_cons_succ]
                      refine takeH 6 113 (.slice y.r.a y.x.p.length y.r.ac) rfl rfl (by kernel_rfl) (by kernel_rfl) (by kernel_rfl) (fun _ _ _ h => h) (by kernel_rfl) (fun X hX => by have hq := HI.out.cl.below hX.2 (Nat.le_refl _); rw [e0] at hq; have hcx := es_fld enC_len hq hy.out 3 (by decide) _ rfl; clear hX hq; go_simp) hHeld ?_
                      simp only [Act.put, List.setIfInBounds_toArray, List.set_cons_zero, List.set_cons_succ]
                      refine takeH 7 114 (.int .i64 (y.x.p.length : Nat)) rfl rfl (by kernel_rfl) (by kernel_rfl) (by kernel_rfl) (fun _ _ _ h => h) (by kernel_rfl) (fun X hX => by clear hX; first | rfl | go_simp) hHeld ?_
                      simp only [Act.put, List.setIfInBounds_toArray, List.set_cons_zero, List.set_cons_succ]
                      refine takeH 8 115 (.int .i64 (IntKind.i64.wrap (n + (y.x.p.length : Nat)))) rfl rfl (by kernel_rfl) (by kernel_rfl) (by kernel_rfl) (fun _ _ _ h => h) (by kernel_rfl) (fun X hX => by clear hX; first | rfl | go_simp) hHeld ?_
                      simp only [Act.put, List.setIfInBounds_toArray, List.set_cons_zero, List.set_cons_succ]
                      refine takeH 9 116 (.pointer (some ⟨G, 7, none⟩)) rfl rfl (by kernel_rfl) (by kernel_rfl) (by kernel_rfl) (fun _ _ _ h => h) (by kernel_rfl) (fun X hX => by clear hX; first | rfl | go_simp) hHeld ?_
                      simp only [Act.put, List.setIfInBounds_toArray, List.set_cons_zero, List.set_cons_succ]
                      refine takeH 10 117 (.slice (some ad) x.cl.length x.c3) rfl rfl (by kernel_rfl) (by kernel_rfl) (by kernel_rfl) (fun _ _ _ h => h) (by kernel_rfl) (fun X hX => by obtain ⟨p0, p1, p2, p3, p4, p5, p6, p7, p8, p9, p10, p11, p12, p13, p14⟩ := Hcell.out _ hX; rw [e0] at p7; clear hX; go_simp) hHeld ?_
                      simp only [Act.put, List.setIfInBounds_toArray, List.set_cons_zero, List.set_cons_succ]
                      refine takeH 11 118 (.int .i64 i) rfl rfl (by kernel_rfl) (by kernel_rfl) (by kernel_rfl) (fun _ _ _ h => h) (by kernel_rfl) (fun X hX => by clear hX; first | rfl | go_simp) hHeld ?_
                      simp only [Act.put, List.setIfInBounds_toArray, List.set_cons_zero, List.set_cons_succ]
                      refine takeH 12 119 (.pointer (some (ad.add (i * 7)))) rfl rfl (by kernel_rfl) (by kernel_rfl) (by kernel_rfl) (fun _ _ _ h => h) (by kernel_rfl) (fun X hX => by clear hX; first | rfl | go_simp) hHeld ?_
                      simp only [Act.put, List.setIfInBounds_toArray, List.set_cons_zero, List.set_cons_succ]
                      refine takeH 13 120 (.pointer (some ⟨(ad.add (i * 7)).block, (ad.add (i * 7)).off + 4, none⟩)) rfl rfl (by kernel_rfl) (by kernel_rfl) (by kernel_rfl) (fun _ _ _ h => h) (by kernel_rfl) (fun X hX => by clear hX; first | rfl | go_simp) hHeld ?_
                      simp only [Act.put, List.setIfInBounds_toArray, List.set_cons_zero, List.set_cons_succ]
                      refine takeH 14 121 (.slice y.r.b y.x.t.length y.r.bc) rfl rfl (by kernel_rfl) (by kernel_rfl) (by kernel_rfl) (fun _ _ _ h => h) (by kernel_rfl) (fun X hX => by have hq := HI.out.cl.below hX.2 (Nat.le_refl _); rw [e0] at hq; have hcx := es_fld enC_len hq hy.out 4 (by decide) _ rfl; clear hX hq; go_simp) hHeld ?_
                      simp only [Act.put, List.setIfInBounds_toArray, List.set_cons_zero, List.set_cons_succ]
                      refine takeH 15 122 (.int .i64 (y.x.t.length : Nat)) rfl rfl (by kernel_rfl) (by kernel_rfl) (by kernel_rfl) (fun _ _ _ h => h) (by kernel_rfl) (fun X hX => by clear hX; first | rfl | go_simp) hHeld ?_
                      simp only [Act.put, List.setIfInBounds_toArray, List.set_cons_zero, List.set_cons_succ]
                      refine takeH 16 123 (.int .i64 (IntKind.i64.wrap (IntKind.i64.wrap (n + (y.x.p.length : Nat)) + (y.x.t.length : Nat)))) rfl rfl (by kernel_rfl) (by kernel_rfl) (by kernel_rfl) (fun _ _ _ h => h) (by kernel_rfl) (fun X hX => by clear hX; first | rfl | go_simp) hHeld ?_
                      simp only [Act.put, List.setIfInBounds_toArray, List.set_cons_zero, List.set_cons_succ]
                      refine takeH 17 124 (.pointer (some ⟨G, 7, none⟩)) rfl rfl (by kernel_rfl) (by kernel_rfl) (by kernel_rfl) (fun _ _ _ h => h) (by kernel_rfl) (fun X hX => by clear hX; first | rfl | go_simp) hHeld ?_
                      simp only [Act.put, List.setIfInBounds_toArray, List.set_cons_zero, List.set_cons_succ]
                      refine takeH 18 125 (.slice (some ad) x.cl.length x.c3) rfl rfl (by kernel_rfl) (by kernel_rfl) (by kernel_rfl) (fun _ _ _ h => h) (by kernel_rfl) (fun X hX => by obtain ⟨p0, p1, p2, p3, p4, p5, p6, p7, p8, p9, p10, p11, p12, p13, p14⟩ := Hcell.out _ hX; rw [e0] at p7; clear hX; go_simp) hHeld ?_
                      simp only [Act.put, List.setIfInBounds_toArray, List.set_cons_zero, List.set_cons_succ]
                      refine takeH 19 126 (.int .i64 i) rfl rfl (by kernel_rfl) (by kernel_rfl) (by kernel_rfl) (fun _ _ _ h => h) (by kernel_rfl) (fun X hX => by clear hX; first | rfl | go_simp) hHeld ?_
                      simp only [Act.put, List.setIfInBounds_toArray, List.set_cons_zero, List.set_cons_succ]
                      refine takeH 20 127 (.pointer (some (ad.add (i * 7)))) rfl rfl (by kernel_rfl) (by kernel_rfl) (by kernel_rfl) (fun _ _ _ h => h) (by kernel_rfl) (fun X hX => by clear hX; first | rfl | go_simp) hHeld ?_
                      simp only [Act.put, List.setIfInBounds_toArray, List.set_cons_zero, List.set_cons_succ]
                      refine takeH 21 128 (.pointer (some ⟨(ad.add (i * 7)).block, (ad.add (i * 7)).off + 5, none⟩)) rfl rfl (by kernel_rfl) (by kernel_rfl) (by kernel_rfl) (fun _ _ _ h => h) (by kernel_rfl) (fun X hX => by clear hX; first | rfl | go_simp) hHeld ?_
                      simp only [Act.put, List.setIfInBounds_toArray, List.set_cons_zero, List.set_cons_succ]
                      refine takeH 22 129 (.slice y.r.c y.x.l.length y.r.cc) rfl rfl (by kernel_rfl) (by kernel_rfl) (by kernel_rfl) (fun _ _ _ h => h) (by kernel_rfl) (fun X hX => by have hq := HI.out.cl.below hX.2 (Nat.le_refl _); rw [e0] at hq; have hcx := es_fld enC_len hq hy.out 5 (by decide) _ rfl; clear hX hq; go_simp) hHeld ?_
                      simp only [Act.put, List.setIfInBounds_toArray, List.set_cons_zero, List.set_cons_succ]
                      refine takeH 23 130 (.int .i64 (y.x.l.length : Nat)) rfl rfl (by kernel_rfl) (by kernel_rfl) (by kernel_rfl) (fun _ _ _ h => h) (by kernel_rfl) (fun X hX => by clear hX; first | rfl | go_simp) hHeld ?_
                      simp only [Act.put, List.setIfInBounds_toArray, List.set_cons_zero, List.set_cons_succ]
                      refine takeH 24 131 (.int .i64 (IntKind.i64.wrap (IntKind.i64.wrap (IntKind.i64.wrap (n + (y.x.p.length : Nat)) + (y.x.t.length : Nat)) + (y.x.l.length : Nat)))) rfl rfl (by kernel_rfl) (by kernel_rfl) (by kernel_rfl) (fun _ _ _ h => h) (by kernel_rfl) (fun X hX => by clear hX; first | rfl | go_simp) hHeld ?_
                      simp only [Act.put, List.setIfInBounds_toArray, List.set_cons_zero, List.set_cons_succ]
                      refine takeH 25 3 (.int .i64 (IntKind.i64.wrap (IntKind.i64.wrap (IntKind.i64.wrap (n + (y.x.p.length : Nat)) + (y.x.t.length : Nat)) + (y.x.l.length : Nat)))) rfl rfl (by kernel_rfl) (by kernel_rfl) (by kernel_rfl) (fun _ _ _ h => h) (by kernel_rfl) (fun X hX => by clear hX; first | rfl | go_simp) hHeld ?_
                      simp only [Act.put, List.setIfInBounds_toArray, List.set_cons_zero, List.set_cons_succ]
                      refine wpAnyH_done (by kernel_rfl) ?_ _
                      clear hHeld
                      go_wp2_with fail
                      exact ⟨⟨i + 1, _, by go_num, by omega, rfl, hid KM.out.drew⟩, by simp [intOf]; omega⟩
                    · obtain rfl : i = x.cl.length := by omega
                      have i2 : ¬ (x.cl.length : Int) < (x.cl.length : Int) := by omega
                      clear hlt
                      go_wp2_with fail
                      go_loopw [3, 8] (fun nv iv wr => ∃ (i : Nat) (n : Int), iv = .int .i64 i ∧ i ≤ x.st.length ∧ nv = .int .i64 n ∧ Hid (Mem w wr [(G, pbc x, 34)])) (fun _ iv _ => x.st.length - (intOf iv).toNat)
                      case atStart => exact ⟨0, _, rfl, Nat.zero_le _, rfl, KM⟩
                      case round =>
                        clear KM
                        clear p0 p1 p2 p3 p4 p5 p6 p7 p8 p9 p10 p11 p12 p13 p14
                        obtain ⟨i, n, rfl, hi, rfl, KM⟩ := hrel
                        obtain ⟨p0, p1, p2, p3, p4, p5, p6, p7, p8, p9, p10, p11, p12, p13, p14⟩ := Hcell.out _ KM.out
                        have hF := HF2.out
                        unfold PbFew2 PbFew at hF
                        by_cases hlt : i < x.st.length
                        · skip
                          obtain ⟨ad, y, e0, had, hy, hyl, _⟩ := Es.get enS_len (by decide) (HI.out.st.below KM.out.2 (Nat.le_refl _)) hlt
                          have hq := HI.out.st.below KM.out.2 (Nat.le_refl _)
                          rw [e0] at hq p9
                          have hc1 := es_fld enS_len hq hy.out 1 (by decide) _ rfl
                          have i1 : (0 : Int) ≤ (i : Int) := by omega
                          have i2 : (i : Int) < (x.st.length : Int) := by omega
                          clear hq
                          go_wp2_with fail
                          exact ⟨⟨i + 1, _, by go_num, by omega, rfl, KM⟩, by simp [intOf]; omega⟩
                        · obtain rfl : i = x.st.length := by omega
                          have i2 : ¬ (x.st.length : Int) < (x.st.length : Int) := by omega
                          clear hlt
                          go_wp2_with fail
                          go_loopw [3, 9] (fun nv iv wr => ∃ (i : Nat) (n : Int), iv = .int .i64 i ∧ i ≤ x.rl.length ∧ nv = .int .i64 n ∧ Hid (Mem w wr [(G, pbc x, 34)])) (fun _ iv _ => x.rl.length - (intOf iv).toNat)
                          case atStart => exact ⟨0, _, rfl, Nat.zero_le _, rfl, KM⟩
                          case round =>
                            clear KM
                            clear p0 p1 p2 p3 p4 p5 p6 p7 p8 p9 p10 p11 p12 p13 p14
                            obtain ⟨i, n, rfl, hi, rfl, KM⟩ := hrel
                            obtain ⟨p0, p1, p2, p3, p4, p5, p6, p7, p8, p9, p10, p11, p12, p13, p14⟩ := Hcell.out _ KM.out
                            have hF := HF2.out
                            unfold PbFew2 PbFew at hF
                            by_cases hlt : i < x.rl.length
                            · skip
                              obtain ⟨ad, y, e0, had, hy, hyl, _⟩ := Es.get enU_len (by decide) (HI.out.rl.below KM.out.2 (Nat.le_refl _)) hlt
                              have hq := HI.out.rl.below KM.out.2 (Nat.le_refl _)
                              rw [e0] at hq p10
                              have hc1 := es_fld enU_len hq hy.out 1 (by decide) _ rfl
                              have i1 : (0 : Int) ≤ (i : Int) := by omega
                              have i2 : (i : Int) < (x.rl.length : Int) := by omega
                              clear hq
                              go_wp2_with fail
                              exact ⟨⟨i + 1, _, by go_num, by omega, rfl, KM⟩, by simp [intOf]; omega⟩
                            · obtain rfl : i = x.rl.length := by omega
                              have i2 : ¬ (x.rl.length : Int) < (x.rl.length : Int) := by omega
                              clear hlt
                              go_wp2_with fail
                              go_loopw [3, 10] (fun nv iv wr => ∃ (i : Nat) (n : Int), iv = .int .i64 i ∧ i ≤ x.cs.length ∧ nv = .int .i64 n ∧ Hid (Mem w wr [(G, pbc x, 34)])) (fun _ iv _ => x.cs.length - (intOf iv).toNat)
                              case atStart => exact ⟨0, _, rfl, Nat.zero_le _, rfl, KM⟩
                              case round =>
                                clear KM
                                clear p0 p1 p2 p3 p4 p5 p6 p7 p8 p9 p10 p11 p12 p13 p14
                                obtain ⟨i, n, rfl, hi, rfl, KM⟩ := hrel
                                obtain ⟨p0, p1, p2, p3, p4, p5, p6, p7, p8, p9, p10, p11, p12, p13, p14⟩ := Hcell.out _ KM.out
                                have hF := HF2.out
                                unfold PbFew2 PbFew at hF
                                by_cases hlt : i < x.cs.length
                                · skip
                                  obtain ⟨ad, y, e0, had, hy, hyl, _⟩ := Es.get enK_len (by decide) (HI.out.cs.below KM.out.2 (Nat.le_refl _)) hlt
                                  have Hc1 := hid (fun X (hb : Below w.heap.size w X) => (show X.cell? ⟨(ad.add (i * 2)).block, (ad.add (i * 2)).off + 1, none⟩ = some (.slice y.a y.x.ws.length y.c) from by
                                    have hq := HI.out.cs.below hb (Nat.le_refl _)
                                    rw [e0] at hq
                                    exact es_fld enK_len hq hy.out 1 (by decide) _ rfl))
                                  have hc1 := Hc1.out _ KM.out.2
                                  have HW3 := hid (HI.out.csI y hyl).2.1
                                  have hwl : y.x.ws.length ≤ 9223372036854775807 := by have := (HI.out.csI y hyl).2.2.1; unfold maxLen at this; omega
                                  have Hlsl := hid (fun ls (hls : ls ∈ y.x.ws) => show ls.length ≤ 9223372036854775807 from by have := ((HI.out.csI y hyl).2.2.2.2 ls hls).1; unfold maxLen at this; omega)
                                  rw [e0] at p8
                                  have He0 := hid e0
                                  have i1 : (0 : Int) ≤ (i : Int) := by omega
                                  have i2 : (i : Int) < (x.cs.length : Int) := by omega
                                  go_wp2_with fail
                                  go_loopw [3, 11] (fun nv iv wr => ∃ (k : Nat) (n : Int), iv = .int .i64 k ∧ k ≤ y.x.ws.length ∧ nv = .int .i64 n ∧ Hid (Mem w wr [(G, pbc x, 34)])) (fun _ iv _ => y.x.ws.length - (intOf iv).toNat)
                                  case atStart => exact ⟨0, _, rfl, Nat.zero_le _, rfl, KM⟩
                                  case round =>
                                    clear KM hc1
                                    clear p0 p1 p2 p3 p4 p5 p6 p7 p8 p9 p10 p11 p12 p13 p14
                                    obtain ⟨k, n, rfl, hk, rfl, KM⟩ := hrel
                                    obtain ⟨p0, p1, p2, p3, p4, p5, p6, p7, p8, p9, p10, p11, p12, p13, p14⟩ := Hcell.out _ KM.out
                                    have hc1 := Hc1.out _ KM.out.2
                                    rw [He0.out] at p8
                                    by_cases hkl : k < y.x.ws.length
                                    · skip
                                      obtain ⟨ad2, Ak, ck, ls, e1, had2, hls, hlsm, _, _, _⟩ := Rows3.at_ (HW3.out.below KM.out.2 (Nat.le_refl _)) hkl
                                      have Hc2 := hid (fun X (hb : Below w.heap.size w X) => (show ∃ Ak ck, X.cell? (ad2.add k) = some (.slice Ak ls.length ck) ∧ Rows2 X w.heap.size Ak ls from by
                                        obtain ⟨ad2', Ak', ck', ls', e1', _, hls', _, hc', hr', _⟩ := Rows3.at_ (HW3.out.below hb (Nat.le_refl _)) hkl
                                        rw [e1] at e1'
                                        cases e1'
                                        obtain rfl := Option.some.inj (hls'.out.symm.trans hls.out)
                                        exact ⟨Ak', ck', hc', hr'⟩))
                                      have hll := Hlsl.out ls hlsm
                                      have He1 := hid e1
                                      obtain ⟨Ak2, ck2, hc0, hr0⟩ := Hc2.out _ (Below.refl _ w)
                                      have HR2 := hid (fun X (hb : Below w.heap.size w X) => (show X.cell? (ad2.add k) = some (.slice Ak2 ls.length ck2) ∧ Rows2 X w.heap.size Ak2 ls from by
                                        have had3 := had2
                                        exact ⟨(hb.cell (by rw [add_block]; exact had2)).trans hc0, hr0.below hb (Nat.le_refl _)⟩))
                                      rw [e1] at hc1
                                      obtain ⟨hc2, hr2⟩ := HR2.out _ KM.out.2
                                      clear hc0 hr0
                                      have k1 : (0 : Int) ≤ (k : Int) := by omega
                                      have k2 : (k : Int) < (y.x.ws.length : Int) := by omega
                                      go_wp2_with fail
                                      go_loopw [3, 12] (fun nv iv wr => ∃ (j : Nat) (n : Int), iv = .int .i64 j ∧ j ≤ ls.length ∧ nv = .int .i64 n ∧ Hid (Mem w wr [(G, pbc x, 34)])) (fun _ iv _ => ls.length - (intOf iv).toNat)
                                      case atStart => exact ⟨0, _, rfl, Nat.zero_le _, rfl, KM⟩
                                      case round =>
                                        clear KM hc1 hc2 hr2
                                        clear p0 p1 p2 p3 p4 p5 p6 p7 p8 p9 p10 p11 p12 p13 p14
                                        obtain ⟨j, n, rfl, hj, rfl, KM⟩ := hrel
                                        obtain ⟨p0, p1, p2, p3, p4, p5, p6, p7, p8, p9, p10, p11, p12, p13, p14⟩ := Hcell.out _ KM.out
                                        have hc1 := Hc1.out _ KM.out.2
                                        rw [He0.out] at p8
                                        rw [He1.out] at hc1
                                        obtain ⟨hc2, hr2⟩ := HR2.out _ KM.out.2
                                        by_cases hjl : j < ls.length
                                        · skip
                                          obtain ⟨ad3, Aj, cj, l, e2, _, hl, _, hc3, _, _⟩ := Rows2.get hr2 hjl
                                          rw [e2] at hc2
                                          have j1 : (0 : Int) ≤ (j : Int) := by omega
                                          have j2 : (j : Int) < (ls.length : Int) := by omega
                                          go_wp2_with fail
                                          exact ⟨⟨j + 1, _, by go_num, by omega, rfl, KM⟩, by simp [intOf]; omega⟩
                                        · obtain rfl : j = ls.length := by omega
                                          have j2 : ¬ (ls.length : Int) < (ls.length : Int) := by omega
                                          go_wp2_with fail
                                          exact ⟨⟨k + 1, _, by go_num, by omega, rfl, KM⟩, by simp [intOf]; omega⟩
                                    · obtain rfl : k = y.x.ws.length := by omega
                                      have k2 : ¬ (y.x.ws.length : Int) < (y.x.ws.length : Int) := by omega
                                      go_wp2_with fail
                                      exact ⟨⟨i + 1, _, by go_num, by omega, rfl, KM⟩, by simp [intOf]; omega⟩
                                · obtain rfl : i = x.cs.length := by omega
                                  have i2 : ¬ (x.cs.length : Int) < (x.cs.length : Int) := by omega
                                  go_wp2_with fail
                                  go_ret
                                  exact ⟨_, rfl, fun _ => HF2.out, KM.out.2⟩
end Go.Proofs.YtgmgccepmalahaaGreat
