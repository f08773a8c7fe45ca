/- Proves 'ProblemFindsSaid': for every input the Go function ProblemFinds returns true, and each argument reads afterwards as it read before. Conditions: none beyond the row's own. -/
import Derived.Test.YtgmgccepmalahaaGreatRows
import Derived.WalkKit
import Derived.ProofKit
import Derived.OpenShut
import Derived.ShutString
import Derived.SliceStrings
import Derived.ChangeOld
import Derived.Below
import Derived.Test.YtgmgccepmalahaaGreatPrmL
import Derived.Test.YtgmgccepmalahaaGreatPrbG
import Derived.Test.YtgmgccepmalahaaGreatPrbH
import Derived.Test.YtgmgccepmalahaaGreatPrbK
import Derived.Test.YtgmgccepmalahaaGreatPrbL
namespace Go.Proofs.YtgmgccepmalahaaGreat.problemFinds
open Go.ChangeShapes Go.WideShapes Go.ChangeAt Go.RowKit
open Go.ChangeMaps (open_string shut_string)
set_option linter.unusedVariables false

theorem own : ownKnob Tryz.prog.godebug = none := by kernel_rfl
theorem laidOut : laidOutB Tryz.prog = true := by kernel_rfl

/-- WHAT THE WALK IS TOLD OF A SLICE OF INTEGERS THAT CAME IN: it is nil; or it leads to a row of 'cap' cells, the numbers 'zs' (the first 'len' are its elements, the rest its spare room), each fitting its kind. -/
def IsRow (k : IntKind) (w : World) (a : Option Addr) (len cap : Nat) (zs : List Int) : Prop :=
  (a = none ∧ len = 0 ∧ cap = 0 ∧ zs = []) ∨
  ∃ x, a = some x ∧ len ≤ cap ∧ cap ≤ maxLen ∧ zs.length = cap ∧ (∀ i, i < zs.length → w.cell? (x.add i) = some (.int k (zs.getD i 0))) ∧ ∀ n ∈ zs, (Lit.int k n).wf = true

/-! ### STEP 1: THE WALK: the Go text returns true, AND WRITES NOTHING THAT WAS THERE: 'Below w.heap.size w w'' (Derived/Below.lean: '.refl', '.alloc', '.drew', '.setCell' at a new block, '.trans'). Open each 'IsRow' by 'rcases' AHEAD of 'go_enter'; part every test ahead of the walk. -/
set_option maxRecDepth 20000 in
set_option maxHeartbeats 16000000 in
theorem walk (a0 : PbA) (a1 : ByteArray) (w : World) (w0 : PbIn w a0) (w1 : a1.size ≤ maxLen) :
    Calls Tryz.prog 7 #[pbv a0, .string a1] w fun e w' => e = .returned (.bool true) ∧ Below w.heap.size w w' := by
  obtain ⟨s, hs⟩ : ∃ s, a1.data.toList = s := ⟨_, rfl⟩
  have ht : Value.string a1 = txt s := by subst hs; unfold txt; rw [of_bs]
  revert w0; generalize a0 = x; intro h0
  show Calls Tryz.prog 7 #[pbv x, .string a1] w (Did (.bool true) w)
  rw [ht]
  have HH := hid (fun X => heads17 X)
  have HF := hid (fun X (hb : Below w.heap.size w X) => r17_Few x X (h0.next hb))
  have HP0 := hid (fun X (hb : Below w.heap.size w X) => p_FindRoom x s X (h0.next hb))
  have HR0 := hid (fun X (hb : Below w.heap.size w X) => r17_FindRoom x s X (h0.next hb))
  have HP1 := hid (fun X (hb : Below w.heap.size w X) => p_FindPerson x s X (h0.next hb))
  have HR1 := hid (fun X (hb : Below w.heap.size w X) => r17_FindPerson x s X (h0.next hb))
  have HP2 := hid (fun X (hb : Below w.heap.size w X) => p_FindClass x s X (h0.next hb))
  have HR2 := hid (fun X (hb : Below w.heap.size w X) => r17_FindClass x s X (h0.next hb))
  have HP3 := hid (fun X (hb : Below w.heap.size w X) => p_FindCourse x s X (h0.next hb))
  have HR3 := hid (fun X (hb : Below w.heap.size w X) => r17_FindCourse x s X (h0.next hb))
  generalize fnd (x.rm.map fun y => y.r.n) s = f0 at *
  generalize fnd (x.ps.map fun y => y.r.n) s = f1 at *
  generalize fnd (x.cl.map fun y => y.x.n) s = f2 at *
  generalize fnd (x.cs.map fun y => y.x.n) s = f3 at *
  have HI := hid h0
  obtain ⟨G, W, hG, hW, K, hb0⟩ := (Mem.nil w).one (pbc x) 34
  have Hcell := hid (fun X (h : Mem w X [(G, pbc x, 34)]) => h.pb (B := G) (x := x) (t := 34) (by simp))
  obtain ⟨p0, p1, p2, p3, p4, p5, p6, p7, p8, p9, p10, p11, p12, p13, p14⟩ := Hcell.out _ K.out
  clear h0 hb0
  go_enter Tryz.func7, Tryz.ntmps7
  go_wp2_with fail
  refine (HF.out _ K.out.2).mono ?_
  rintro e Y0 ⟨fb, rfl, hfb, bz⟩
  have K0 := hid (K.out.next bz)
  clear p0 p1 p2 p3 p4 p5 p6 p7 p8 p9 p10 p11 p12 p13 p14
  clear bz K hW HF
  cases fb with
  | false =>
    clear hfb
    go_wp2_with fail
    refine (HH.out _).mono ?_
    rintro e Y1 ⟨rfl, bz⟩
    have K1 := hid (K0.out.next bz)
    go_wp2_with fail
    go_ret
    exact Did.mk rfl K1.out.2
  | true =>
    have hf := hfb rfl
    clear hfb
    clear hf
    go_upto_region 3 with fail
    refine wp_region_held_drew (S := fun X => Mem w X [(G, pbc x, 34)]) (by kernel_rfl) K0.out.drew (fun hHeld => ?_)
    refine takeH 0 9 (.agg #[txt x.n, .int .i64 x.g.w, .int .i64 x.g.d, .int .i64 x.g.s, .slice x.r0 x.rm.length x.c0, .slice x.r1 x.wk.length x.c1, .slice x.r2 x.ps.length x.c2, .slice x.r3 x.cl.length x.c3, .slice x.r4 x.cs.length x.c4, .slice x.r5 x.st.length x.c5, .slice x.r6 x.rl.length x.c6, .int .i64 x.w0, .int .i64 x.w1, .int .i64 x.w2, .int .i64 x.w3]) rfl rfl (by kernel_rfl) (by kernel_rfl) (by kernel_rfl) (fun _ _ _ h => h) (by kernel_rfl) (fun X hX => by obtain ⟨p0, p1, p2, p3, p4, p5, p6, p7, p8, p9, p10, p11, p12, p13, p14⟩ := Hcell.out _ hX; clear hX; go_simp) hHeld ?_
    simp only [Act.put, List.setIfInBounds_toArray, List.set_cons_zero, List.set_cons_succ]
    refine takeH 1 10 (txt s) rfl rfl (by kernel_rfl) (by kernel_rfl) (by kernel_rfl) (fun _ _ _ h => h) (by kernel_rfl) (fun X hX => by clear hX; first | rfl | go_simp) hHeld ?_
    simp only [Act.put, List.setIfInBounds_toArray, List.set_cons_zero, List.set_cons_succ]
    refine takeH 3 12 (.agg #[txt x.n, .int .i64 x.g.w, .int .i64 x.g.d, .int .i64 x.g.s, .slice x.r0 x.rm.length x.c0, .slice x.r1 x.wk.length x.c1, .slice x.r2 x.ps.length x.c2, .slice x.r3 x.cl.length x.c3, .slice x.r4 x.cs.length x.c4, .slice x.r5 x.st.length x.c5, .slice x.r6 x.rl.length x.c6, .int .i64 x.w0, .int .i64 x.w1, .int .i64 x.w2, .int .i64 x.w3]) rfl rfl (by kernel_rfl) (by kernel_rfl) (by kernel_rfl) (fun _ _ _ h => h) (by kernel_rfl) (fun X hX => by obtain ⟨p0, p1, p2, p3, p4, p5, p6, p7, p8, p9, p10, p11, p12, p13, p14⟩ := Hcell.out _ hX; clear hX; go_simp) hHeld ?_
    simp only [Act.put, List.setIfInBounds_toArray, List.set_cons_zero, List.set_cons_succ]
    refine takeH 4 13 (txt s) rfl rfl (by kernel_rfl) (by kernel_rfl) (by kernel_rfl) (fun _ _ _ h => h) (by kernel_rfl) (fun X hX => by clear hX; first | rfl | go_simp) hHeld ?_
    simp only [Act.put, List.setIfInBounds_toArray, List.set_cons_zero, List.set_cons_succ]
    have M0 := hid K0.out.drew
    obtain ⟨U, hU⟩ : ∃ U, Y0.drew = U := ⟨_, rfl⟩
    rw [hU] at M0 hHeld ⊢
    clear hU K0
    have K0 := M0
    clear M0
    refine wpAnyH_ready (rs := [2]) (by kernel_rfl) (by simp) ?_
    refine AllReadyH.cons rfl (fun KK hK => ?_) AllReadyH.nil
    simp only [List.getElem_toArray, List.getElem_cons_succ, List.getElem_cons_zero]
    go_simp
    refine (HP0.out _ K0.out.2).mono ?_
    rintro e Y0 ⟨rfl, bz⟩
    have K1 := hid (K0.out.next bz)
    clear bz
    refine hK.out _ _ K1.out (fun hHeld => ?_)
    clear hK KK
    try simp only [Act.put, List.setIfInBounds_toArray, List.set_cons_zero, List.set_cons_succ]
    refine wpAnyH_ready (rs := [5]) (by kernel_rfl) (by simp) ?_
    refine AllReadyH.cons rfl (fun KK hK => ?_) AllReadyH.nil
    simp only [List.getElem_toArray, List.getElem_cons_succ, List.getElem_cons_zero]
    go_simp
    refine (HR0.out _ K1.out.2).mono ?_
    rintro e Y1 ⟨rfl, bz⟩
    have K2 := hid (K1.out.next bz)
    clear bz
    refine hK.out _ _ K2.out (fun hHeld => ?_)
    clear hK KK
    try simp only [Act.put, List.setIfInBounds_toArray, List.set_cons_zero, List.set_cons_succ]
    as_aux_lemma =>
      refine takeH 6 15 (.bool true) rfl rfl (by kernel_rfl) (by kernel_rfl) (by kernel_rfl) (fun _ _ _ h => h) (by kernel_rfl) (fun X hX => by clear hX; first | rfl | go_simp) hHeld ?_
      simp only [Act.put, List.setIfInBounds_toArray, List.set_cons_zero, List.set_cons_succ]
      refine takeH 7 16 (.bool true) rfl rfl (by kernel_rfl) (by kernel_rfl) (by kernel_rfl) (fun _ _ _ h => h) (by kernel_rfl) (fun X hX => by clear hX; first | rfl | go_simp) hHeld ?_
      simp only [Act.put, List.setIfInBounds_toArray, List.set_cons_zero, List.set_cons_succ]
      refine takeH 8 17 (.agg #[txt x.n, .int .i64 x.g.w, .int .i64 x.g.d, .int .i64 x.g.s, .slice x.r0 x.rm.length x.c0, .slice x.r1 x.wk.length x.c1, .slice x.r2 x.ps.length x.c2, .slice x.r3 x.cl.length x.c3, .slice x.r4 x.cs.length x.c4, .slice x.r5 x.st.length x.c5, .slice x.r6 x.rl.length x.c6, .int .i64 x.w0, .int .i64 x.w1, .int .i64 x.w2, .int .i64 x.w3]) rfl rfl (by kernel_rfl) (by kernel_rfl) (by kernel_rfl) (fun _ _ _ h => h) (by kernel_rfl) (fun X hX => by obtain ⟨p0, p1, p2, p3, p4, p5, p6, p7, p8, p9, p10, p11, p12, p13, p14⟩ := Hcell.out _ hX; clear hX; go_simp) hHeld ?_
      simp only [Act.put, List.setIfInBounds_toArray, List.set_cons_zero, List.set_cons_succ]
      refine takeH 9 18 (txt s) rfl rfl (by kernel_rfl) (by kernel_rfl) (by kernel_rfl) (fun _ _ _ h => h) (by kernel_rfl) (fun X hX => by clear hX; first | rfl | go_simp) hHeld ?_
      simp only [Act.put, List.setIfInBounds_toArray, List.set_cons_zero, List.set_cons_succ]
      refine takeH 11 20 (.agg #[txt x.n, .int .i64 x.g.w, .int .i64 x.g.d, .int .i64 x.g.s, .slice x.r0 x.rm.length x.c0, .slice x.r1 x.wk.length x.c1, .slice x.r2 x.ps.length x.c2, .slice x.r3 x.cl.length x.c3, .slice x.r4 x.cs.length x.c4, .slice x.r5 x.st.length x.c5, .slice x.r6 x.rl.length x.c6, .int .i64 x.w0, .int .i64 x.w1, .int .i64 x.w2, .int .i64 x.w3]) rfl rfl (by kernel_rfl) (by kernel_rfl) (by kernel_rfl) (fun _ _ _ h => h) (by kernel_rfl) (fun X hX => by obtain ⟨p0, p1, p2, p3, p4, p5, p6, p7, p8, p9, p10, p11, p12, p13, p14⟩ := Hcell.out _ hX; clear hX; go_simp) hHeld ?_
      simp only [Act.put, List.setIfInBounds_toArray, List.set_cons_zero, List.set_cons_succ]
      refine takeH 12 21 (txt s) rfl rfl (by kernel_rfl) (by kernel_rfl) (by kernel_rfl) (fun _ _ _ h => h) (by kernel_rfl) (fun X hX => by clear hX; first | rfl | go_simp) hHeld ?_
      simp only [Act.put, List.setIfInBounds_toArray, List.set_cons_zero, List.set_cons_succ]
      refine wpAnyH_ready (rs := [10]) (by kernel_rfl) (by simp) ?_
      refine AllReadyH.cons rfl (fun KK hK => ?_) AllReadyH.nil
      simp only [List.getElem_toArray, List.getElem_cons_succ, List.getElem_cons_zero]
      go_simp
      refine (HP1.out _ K2.out.2).mono ?_
      rintro e Y2 ⟨rfl, bz⟩
      have K3 := hid (K2.out.next bz)
      clear bz
      refine hK.out _ _ K3.out (fun hHeld => ?_)
      clear hK KK
      try simp only [Act.put, List.setIfInBounds_toArray, List.set_cons_zero, List.set_cons_succ]
      refine wpAnyH_ready (rs := [13]) (by kernel_rfl) (by simp) ?_
      refine AllReadyH.cons rfl (fun KK hK => ?_) AllReadyH.nil
      simp only [List.getElem_toArray, List.getElem_cons_succ, List.getElem_cons_zero]
      go_simp
      refine (HR1.out _ K3.out.2).mono ?_
      rintro e Y3 ⟨rfl, bz⟩
      have K4 := hid (K3.out.next bz)
      clear bz
      refine hK.out _ _ K4.out (fun hHeld => ?_)
      clear hK KK
      try simp only [Act.put, List.setIfInBounds_toArray, List.set_cons_zero, List.set_cons_succ]
      as_aux_lemma =>
        refine takeH 14 23 (.bool true) rfl rfl (by kernel_rfl) (by kernel_rfl) (by kernel_rfl) (fun _ _ _ h => h) (by kernel_rfl) (fun X hX => by clear hX; first | rfl | go_simp) hHeld ?_
        simp only [Act.put, List.setIfInBounds_toArray, List.set_cons_zero, List.set_cons_succ]
        refine takeH 15 24 (.bool true) rfl rfl (by kernel_rfl) (by kernel_rfl) (by kernel_rfl) (fun _ _ _ h => h) (by kernel_rfl) (fun X hX => by clear hX; first | rfl | go_simp) hHeld ?_
        simp only [Act.put, List.setIfInBounds_toArray, List.set_cons_zero, List.set_cons_succ]
        refine takeH 16 25 (.bool true) rfl rfl (by kernel_rfl) (by kernel_rfl) (by kernel_rfl) (fun _ _ _ h => h) (by kernel_rfl) (fun X hX => by clear hX; first | rfl | go_simp) hHeld ?_
        simp only [Act.put, List.setIfInBounds_toArray, List.set_cons_zero, List.set_cons_succ]
        refine takeH 17 26 (.agg #[txt x.n, .int .i64 x.g.w, .int .i64 x.g.d, .int .i64 x.g.s, .slice x.r0 x.rm.length x.c0, .slice x.r1 x.wk.length x.c1, .slice x.r2 x.ps.length x.c2, .slice x.r3 x.cl.length x.c3, .slice x.r4 x.cs.length x.c4, .slice x.r5 x.st.length x.c5, .slice x.r6 x.rl.length x.c6, .int .i64 x.w0, .int .i64 x.w1, .int .i64 x.w2, .int .i64 x.w3]) rfl rfl (by kernel_rfl) (by kernel_rfl) (by kernel_rfl) (fun _ _ _ h => h) (by kernel_rfl) (fun X hX => by obtain ⟨p0, p1, p2, p3, p4, p5, p6, p7, p8, p9, p10, p11, p12, p13, p14⟩ := Hcell.out _ hX; clear hX; go_simp) hHeld ?_
        simp only [Act.put, List.setIfInBounds_toArray, List.set_cons_zero, List.set_cons_succ]
        refine takeH 18 27 (txt s) rfl rfl (by kernel_rfl) (by kernel_rfl) (by kernel_rfl) (fun _ _ _ h => h) (by kernel_rfl) (fun X hX => by clear hX; first | rfl | go_simp) hHeld ?_
        simp only [Act.put, List.setIfInBounds_toArray, List.set_cons_zero, List.set_cons_succ]
        refine takeH 20 29 (.agg #[txt x.n, .int .i64 x.g.w, .int .i64 x.g.d, .int .i64 x.g.s, .slice x.r0 x.rm.length x.c0, .slice x.r1 x.wk.length x.c1, .slice x.r2 x.ps.length x.c2, .slice x.r3 x.cl.length x.c3, .slice x.r4 x.cs.length x.c4, .slice x.r5 x.st.length x.c5, .slice x.r6 x.rl.length x.c6, .int .i64 x.w0, .int .i64 x.w1, .int .i64 x.w2, .int .i64 x.w3]) rfl rfl (by kernel_rfl) (by kernel_rfl) (by kernel_rfl) (fun _ _ _ h => h) (by kernel_rfl) (fun X hX => by obtain ⟨p0, p1, p2, p3, p4, p5, p6, p7, p8, p9, p10, p11, p12, p13, p14⟩ := Hcell.out _ hX; clear hX; go_simp) hHeld ?_
        simp only [Act.put, List.setIfInBounds_toArray, List.set_cons_zero, List.set_cons_succ]
        refine takeH 21 30 (txt s) rfl rfl (by kernel_rfl) (by kernel_rfl) (by kernel_rfl) (fun _ _ _ h => h) (by kernel_rfl) (fun X hX => by clear hX; first | rfl | go_simp) hHeld ?_
        simp only [Act.put, List.setIfInBounds_toArray, List.set_cons_zero, List.set_cons_succ]
        refine wpAnyH_ready (rs := [19]) (by kernel_rfl) (by simp) ?_
        refine AllReadyH.cons rfl (fun KK hK => ?_) AllReadyH.nil
        simp only [List.getElem_toArray, List.getElem_cons_succ, List.getElem_cons_zero]
        go_simp
        refine (HP2.out _ K4.out.2).mono ?_
        rintro e Y4 ⟨rfl, bz⟩
        have K5 := hid (K4.out.next bz)
        clear bz
        refine hK.out _ _ K5.out (fun hHeld => ?_)
        clear hK KK
        try simp only [Act.put, List.setIfInBounds_toArray, List.set_cons_zero, List.set_cons_succ]
        refine wpAnyH_ready (rs := [22]) (by kernel_rfl) (by simp) ?_
        refine AllReadyH.cons rfl (fun KK hK => ?_) AllReadyH.nil
        simp only [List.getElem_toArray, List.getElem_cons_succ, List.getElem_cons_zero]
        go_simp
        refine (HR2.out _ K5.out.2).mono ?_
        rintro e Y5 ⟨rfl, bz⟩
        have K6 := hid (K5.out.next bz)
        clear bz
        refine hK.out _ _ K6.out (fun hHeld => ?_)
        clear hK KK
        try simp only [Act.put, List.setIfInBounds_toArray, List.set_cons_zero, List.set_cons_succ]
        as_aux_lemma =>
          refine takeH 23 32 (.bool true) rfl rfl (by kernel_rfl) (by kernel_rfl) (by kernel_rfl) (fun _ _ _ h => h) (by kernel_rfl) (fun X hX => by clear hX; first | rfl | go_simp) hHeld ?_
          simp only [Act.put, List.setIfInBounds_toArray, List.set_cons_zero, List.set_cons_succ]
          refine takeH 24 33 (.bool true) rfl rfl (by kernel_rfl) (by kernel_rfl) (by kernel_rfl) (fun _ _ _ h => h) (by kernel_rfl) (fun X hX => by clear hX; first | rfl | go_simp) hHeld ?_
          simp only [Act.put, List.setIfInBounds_toArray, List.set_cons_zero, List.set_cons_succ]
          refine takeH 25 34 (.bool true) rfl rfl (by kernel_rfl) (by kernel_rfl) (by kernel_rfl) (fun _ _ _ h => h) (by kernel_rfl) (fun X hX => by clear hX; first | rfl | go_simp) hHeld ?_
          simp only [Act.put, List.setIfInBounds_toArray, List.set_cons_zero, List.set_cons_succ]
          refine takeH 26 35 (.agg #[txt x.n, .int .i64 x.g.w, .int .i64 x.g.d, .int .i64 x.g.s, .slice x.r0 x.rm.length x.c0, .slice x.r1 x.wk.length x.c1, .slice x.r2 x.ps.length x.c2, .slice x.r3 x.cl.length x.c3, .slice x.r4 x.cs.length x.c4, .slice x.r5 x.st.length x.c5, .slice x.r6 x.rl.length x.c6, .int .i64 x.w0, .int .i64 x.w1, .int .i64 x.w2, .int .i64 x.w3]) rfl rfl (by kernel_rfl) (by kernel_rfl) (by kernel_rfl) (fun _ _ _ h => h) (by kernel_rfl) (fun X hX => by obtain ⟨p0, p1, p2, p3, p4, p5, p6, p7, p8, p9, p10, p11, p12, p13, p14⟩ := Hcell.out _ hX; clear hX; go_simp) hHeld ?_
          simp only [Act.put, List.setIfInBounds_toArray, List.set_cons_zero, List.set_cons_succ]
          refine takeH 27 36 (txt s) rfl rfl (by kernel_rfl) (by kernel_rfl) (by kernel_rfl) (fun _ _ _ h => h) (by kernel_rfl) (fun X hX => by clear hX; first | rfl | go_simp) hHeld ?_
          simp only [Act.put, List.setIfInBounds_toArray, List.set_cons_zero, List.set_cons_succ]
          refine takeH 29 38 (.agg #[txt x.n, .int .i64 x.g.w, .int .i64 x.g.d, .int .i64 x.g.s, .slice x.r0 x.rm.length x.c0, .slice x.r1 x.wk.length x.c1, .slice x.r2 x.ps.length x.c2, .slice x.r3 x.cl.length x.c3, .slice x.r4 x.cs.length x.c4, .slice x.r5 x.st.length x.c5, .slice x.r6 x.rl.length x.c6, .int .i64 x.w0, .int .i64 x.w1, .int .i64 x.w2, .int .i64 x.w3]) rfl rfl (by kernel_rfl) (by kernel_rfl) (by kernel_rfl) (fun _ _ _ h => h) (by kernel_rfl) (fun X hX => by obtain ⟨p0, p1, p2, p3, p4, p5, p6, p7, p8, p9, p10, p11, p12, p13, p14⟩ := Hcell.out _ hX; clear hX; go_simp) hHeld ?_
          simp only [Act.put, List.setIfInBounds_toArray, List.set_cons_zero, List.set_cons_succ]
          refine takeH 30 39 (txt s) rfl rfl (by kernel_rfl) (by kernel_rfl) (by kernel_rfl) (fun _ _ _ h => h) (by kernel_rfl) (fun X hX => by clear hX; first | rfl | go_simp) hHeld ?_
          simp only [Act.put, List.setIfInBounds_toArray, List.set_cons_zero, List.set_cons_succ]
          refine wpAnyH_ready (rs := [28]) (by kernel_rfl) (by simp) ?_
          refine AllReadyH.cons rfl (fun KK hK => ?_) AllReadyH.nil
          simp only [List.getElem_toArray, List.getElem_cons_succ, List.getElem_cons_zero]
          go_simp
          refine (HP3.out _ K6.out.2).mono ?_
          rintro e Y6 ⟨rfl, bz⟩
          have K7 := hid (K6.out.next bz)
          clear bz
          refine hK.out _ _ K7.out (fun hHeld => ?_)
          clear hK KK
          try simp only [Act.put, List.setIfInBounds_toArray, List.set_cons_zero, List.set_cons_succ]
          refine wpAnyH_ready (rs := [31]) (by kernel_rfl) (by simp) ?_
          refine AllReadyH.cons rfl (fun KK hK => ?_) AllReadyH.nil
          simp only [List.getElem_toArray, List.getElem_cons_succ, List.getElem_cons_zero]
          go_simp
          refine (HR3.out _ K7.out.2).mono ?_
          rintro e Y7 ⟨rfl, bz⟩
          have K8 := hid (K7.out.next bz)
          clear bz
          refine hK.out _ _ K8.out (fun hHeld => ?_)
          clear hK KK
          try simp only [Act.put, List.setIfInBounds_toArray, List.set_cons_zero, List.set_cons_succ]
          as_aux_lemma =>
            refine takeH 32 41 (.bool true) rfl rfl (by kernel_rfl) (by kernel_rfl) (by kernel_rfl) (fun _ _ _ h => h) (by kernel_rfl) (fun X hX => by clear hX; first | rfl | go_simp) hHeld ?_
            simp only [Act.put, List.setIfInBounds_toArray, List.set_cons_zero, List.set_cons_succ]
            refine takeH 33 42 (.bool true) rfl rfl (by kernel_rfl) (by kernel_rfl) (by kernel_rfl) (fun _ _ _ h => h) (by kernel_rfl) (fun X hX => by clear hX; first | rfl | go_simp) hHeld ?_
            simp only [Act.put, List.setIfInBounds_toArray, List.set_cons_zero, List.set_cons_succ]
            refine takeH 34 43 (.bool true) rfl rfl (by kernel_rfl) (by kernel_rfl) (by kernel_rfl) (fun _ _ _ h => h) (by kernel_rfl) (fun X hX => by clear hX; first | rfl | go_simp) hHeld ?_
            simp only [Act.put, List.setIfInBounds_toArray, List.set_cons_zero, List.set_cons_succ]
            refine wpAnyH_ready (rs := [35]) (by kernel_rfl) (by simp) ?_
            refine AllReadyH.cons rfl (fun KK hK => ?_) AllReadyH.nil
            simp only [List.getElem_toArray, List.getElem_cons_succ, List.getElem_cons_zero]
            go_simp
            refine (HH.out _).mono ?_
            rintro e Y8 ⟨rfl, bz⟩
            have K9 := hid (K8.out.next bz)
            clear bz
            refine hK.out _ _ K9.out (fun hHeld => ?_)
            clear hK KK
            try simp only [Act.put, List.setIfInBounds_toArray, List.set_cons_zero, List.set_cons_succ]
            refine takeH 36 45 (.bool true) rfl rfl (by kernel_rfl) (by kernel_rfl) (by kernel_rfl) (fun _ _ _ h => h) (by kernel_rfl) (fun X hX => by clear hX; first | rfl | go_simp) hHeld ?_
            simp only [Act.put, List.setIfInBounds_toArray, List.set_cons_zero, List.set_cons_succ]
            refine wpAnyH_ready (rs := [37]) (by kernel_rfl) (by simp) ?_
            refine AllReadyH.cons rfl (fun KK hK => ?_) AllReadyH.nil
            simp only [List.getElem_toArray, List.getElem_cons_succ, List.getElem_cons_zero]
            go_simp
            refine hK.out _ _ K9.out (fun hHeld => ?_)
            clear hK KK
            try simp only [Act.put, List.setIfInBounds_toArray, List.set_cons_zero, List.set_cons_succ]
            refine wpAnyH_done (by kernel_rfl) ?_ _
            clear hHeld
            go_wp2_with fail
            go_ret
            exact Did.mk rfl K9.out.2

/-! ### THE ROW's STEP: WRITTEN OUT: LEAVE IT -/
set_option maxRecDepth 100000 in
theorem lifted (os : Os) (started : os.Started) (H : Type) (enc : TypeId × Value → H) :
    ReturnsInHanded {} Tryz.checked os 7 .any (Rows.problemFindsSpec.pre6 enc Tryz.prog Tryz.f7 Rows.problemFindsRow.domain false) (Rows.problemFindsSpec.post enc Tryz.prog Tryz.f7 false true false false) := by
  refine returnsInHanded_of_change (C := Tryz.checked) own started (by kernel_rfl) Tryz.func7
    (ChangeSpec.witness6 (enc := enc) (C := Tryz.checked) false ⟨#[], #[.agg #[.string ⟨#[]⟩, .int .i64 0, .int .i64 0, .int .i64 0, .slice none 0 0, .slice none 0 0, .slice none 0 0, .slice none 0 0, .slice none 0 0, .slice none 0 0, .slice none 0 0, .int .i64 0, .int .i64 0, .int .i64 0, .int .i64 0], .string ByteArray.empty], []⟩ 8 (by kernel_rfl) (by kernel_rfl) (by kernel_rfl) (by kernel_rfl)) ?_
  intro W base args ds gs before hval0 hW hcnd _
  have hval : ∀ (j : Nat) t v, Tryz.f7.params[j]? = some t → args[j]? = some v → Value.okWide Tryz.prog W .any base t v := hval0
  have hW' := hW
  obtain ⟨p, q, hA0, hV, rfl, hfz, hnd⟩ := hW
  have hA : DataW.TrodAll enc Tryz.prog W 0 (fun _ => true) true Tryz.f7.params.toList args.toList ds p := hA0
  rw [Tryz.params7] at hA hval
  obtain ⟨v0, vs0, d0, ds0, p0, q0, hargs, rfl, rfl, h0, r0⟩ := trodAll_cons hA
  obtain ⟨v1, vs1, d1, ds1, p1, q1, rfl, rfl, rfl, h1, r1⟩ := trodAll_cons r0
  obtain ⟨rfl, rfl, rfl⟩ := trodAll_nil r1
  obtain rfl : args = #[v0, v1] := by cases args; simp_all
  obtain ⟨rfl, rfl⟩ := trodVars_none hV
  have k0 := h0
  have lt0 : ∀ x ∈ p0, x.block < W.heap.size := by obtain ⟨m, hm⟩ := k0; exact DataW.trod_lt m _ _ _ hm
  obtain ⟨a0, rfl, w0⟩ := open_problem (hval 0 34 v0 rfl rfl) h0
  obtain ⟨a1, rfl, rfl, rfl, w1⟩ := open_string Tryz.underlying9 (hval 1 9 v1 rfl rfl) h1
  clear hA0 hval0
  refine (walk a0 a1 W w0 w1).mono fun e W' ⟨he, bel⟩ => ?_
  subst he
  exact ⟨_, rfl, _, _, _, [], _, [], hW', trodAll_mk1 (shut_bool Tryz.underlying4 _), (trodAll_cons_mk (Below.trod laidOut (by kernel_rfl) (of_decide_eq_true (by kernel_rfl)) k0 bel lt0) (trodAll_cons_mk (shut_string Tryz.underlying9 w1) trodAll_mk0)), rfl, bel.frame _, fun h => by cases h⟩

theorem over : Rows.problemFindsRow.holds Tryz.pinned (OpenSpec.ofChange Rows.problemFindsSpec) :=
  OpenClaim.holds_of_wide 7 Tryz.f7 rfl rfl rfl rfl rfl rfl rfl ⟨rfl, rfl, rfl, rfl, rfl⟩ rfl rfl rfl rfl rfl (by kernel_rfl) Tryz.func7 (by kernel_rfl)
    (of_decide_eq_true (by kernel_rfl)) (by unfold Func.isWrapper; first | (rw [if_pos (by decide +kernel)]; kernel_rfl) | (rw [if_neg (by decide +kernel)]; exact ⟨rfl, rfl⟩))
    (fun os started H enc _ => lifted os started H enc)

/-- ████ THE STATEMENT ████ -/
theorem proved : Rows.ProblemFindsSaid := over
#print axioms proved
end Go.Proofs.YtgmgccepmalahaaGreat.problemFinds
