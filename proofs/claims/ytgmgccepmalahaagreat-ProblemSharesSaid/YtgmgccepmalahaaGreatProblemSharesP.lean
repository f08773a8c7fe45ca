/- Proves 'ProblemSharesSaid': for every input the Go function ProblemShares returns true, and each argument reads afterwards as it read before. Conditions: none beyond the row's own. -/
import Derived.Test.YtgmgccepmalahaaGreatRows
import Derived.WalkKit
import Derived.ProofKit
import Derived.OpenShut
import Derived.ShutString
import Derived.SliceStrings
import Derived.ChangeOld
import Derived.Below
import Derived.Test.YtgmgccepmalahaaGreatPrmL
import Derived.Test.YtgmgccepmalahaaGreatPrmO
namespace Go.Proofs.YtgmgccepmalahaaGreat.problemShares
open Go.ChangeShapes Go.WideShapes Go.ChangeAt Go.RowKit
open Go.ChangeMaps (open_string shut_string)
set_option linter.unusedVariables false

theorem own : ownKnob Tryz.prog.godebug = none := by kernel_rfl
theorem laidOut : laidOutB Tryz.prog = true := by kernel_rfl

/-- WHAT THE WALK IS TOLD OF A SLICE OF INTEGERS THAT CAME IN: it is nil; or it leads to a row of 'cap' cells, the numbers 'zs' (the first 'len' are its elements, the rest its spare room), each fitting its kind. -/
def IsRow (k : IntKind) (w : World) (a : Option Addr) (len cap : Nat) (zs : List Int) : Prop :=
  (a = none ∧ len = 0 ∧ cap = 0 ∧ zs = []) ∨
  ∃ x, a = some x ∧ len ≤ cap ∧ cap ≤ maxLen ∧ zs.length = cap ∧ (∀ i, i < zs.length → w.cell? (x.add i) = some (.int k (zs.getD i 0))) ∧ ∀ n ∈ zs, (Lit.int k n).wf = true

/-! ### STEP 1: THE WALK: the Go text returns true, AND WRITES NOTHING THAT WAS THERE: 'Below w.heap.size w w'' (Derived/Below.lean: '.refl', '.alloc', '.drew', '.setCell' at a new block, '.trans'). Open each 'IsRow' by 'rcases' AHEAD of 'go_enter'; part every test ahead of the walk. -/
set_option maxRecDepth 20000 in
set_option maxHeartbeats 16000000 in
theorem walk (a0 : PbA) (a1 : Int) (a2 : Int) (w : World) (w0 : PbIn w a0) (w1 : (Lit.int .i64 a1).wf = true) (w2 : (Lit.int .i64 a2).wf = true) :
    Calls Tryz.prog 8 #[pbv a0, .int .i64 a1, .int .i64 a2] w fun e w' => e = .returned (.bool true) ∧ Below w.heap.size w w' := by
  have n1 : I64 a1 := by have := bounds_i64 w1; unfold I64; omega
  have n2 : I64 a2 := by have := bounds_i64 w2; unfold I64; omega
  revert w0; generalize a0 = x; intro h0
  show Calls Tryz.prog 8 #[pbv x, .int .i64 a1, .int .i64 a2] w (Did (.bool true) w)
  have HH := hid (fun X => heads17 X)
  have HF := hid (fun X (hb : Below w.heap.size w X) => r17_Few2 x X (h0.next hb))
  have HP := hid (fun hps hr X (hb : Below w.heap.size w X) => p_ShareS x a1 a2 n1 n2 hps hr X (h0.next hb))
  have HQ := hid (fun hps hr X (hb : Below w.heap.size w X) => p_ShareS x a2 a1 n2 n1 hps hr X (h0.next hb))
  rw [shr_comm] at HQ
  have HR := hid (fun X (hb : Below w.heap.size w X) => r_ShareS x a1 a2 X (h0.next hb))
  have HE := hid (fun A A2 c c2 X h h2 => r_Ints A A2 _ _ c c2 (shrN (x.cl.map (·.x)) a1 a2 64) (shrN (x.cl.map (·.x)) a1 a2 64) rfl rfl X X.heap.size X.heap.size h h2 (by have := shrN_len (x.cl.map (·.x)) a1 a2 64; unfold maxLen; omega))
  rw [decide_eq_true rfl] at HE
  have HRis := hid (fun (y : ClA) (hy : y ∈ x.cl) X (hb : Below w.heap.size w X) => show Calls Tryz.prog 33 #[.slice y.r.a y.x.p.length y.r.ac, .int .i64 (x.ps.length : Nat)] X (Did (.bool (risingB y.x.p (x.ps.length : Nat))) X) from r_Rising y.r.a y.r.ac y.x.p (by have h1 := (h0.clI y hy).2.2; unfold Clc at h1; omega) (x.ps.length : Nat) X (its_next (h0.clI y hy).2.1.1 hb))
  generalize shrN (x.cl.map (·.x)) a1 a2 64 = L at *
  have HI := hid h0
  obtain ⟨G, W, hG, hW, K, hb0⟩ := (Mem.nil w).one (pbc x) 34
  have Hcell := hid (fun X (h : Mem w X [(G, pbc x, 34)]) => h.pb (B := G) (x := x) (t := 34) (by simp))
  obtain ⟨p0, p1, p2, p3, p4, p5, p6, p7, p8, p9, p10, p11, p12, p13, p14⟩ := Hcell.out _ K.out
  clear h0 hb0
  go_enter Tryz.func8, Tryz.ntmps8
  go_wp2_with fail
  refine (HF.out _ K.out.2).mono ?_
  rintro e Y0 ⟨fb, rfl, hfb, bz⟩
  have K0 := hid (K.out.next bz)
  clear p0 p1 p2 p3 p4 p5 p6 p7 p8 p9 p10 p11 p12 p13 p14
  clear bz K hW HF
  cases fb with
  | false =>
    clear hfb
    go_wp2_with fail
    refine (HH.out _).mono ?_
    rintro e Y1 ⟨rfl, bz⟩
    have K1 := hid (K0.out.next bz)
    go_wp2_with fail
    go_ret
    exact Did.mk rfl K1.out.2
  | true =>
    have hf := hfb rfl
    clear hfb
    have HP1 := hid (HP.out hf.2)
    have HQ1 := hid (HQ.out hf.2)
    have hcl : x.cl.length ≤ 1000 := hf.1.2.2.2.1
    clear hf HP HQ
    go_wp2_with fail
    go_loopw [7] (fun iv wr => ∃ i : Nat, iv = .int .i64 i ∧ i ≤ x.cl.length ∧ Hid (Mem w wr [(G, pbc x, 34)]) ∧ Hid (∀ j y, j < i → x.cl[j]? = some y → risingB y.x.p (x.ps.length : Nat) = true)) (fun iv _ => x.cl.length - (intOf iv).toNat)
    case atStart => exact ⟨0, rfl, Nat.zero_le _, K0, hid (fun j y hj => absurd hj (Nat.not_lt_zero j))⟩
    case round =>
      clear K0
      obtain ⟨i, rfl, hi, KM, HA⟩ := hrel
      obtain ⟨p0, p1, p2, p3, p4, p5, p6, p7, p8, p9, p10, p11, p12, p13, p14⟩ := Hcell.out _ KM.out
      by_cases hlt : i < x.cl.length
      · obtain ⟨ad, y, e0, had, hy, hyl, _⟩ := Es.get enC_len (by decide) HI.out.cl (k := i) hlt
        have Hrow := hid (fun X (hb : Below w.heap.size w X) => es_fld enC_len (show Es enC X w.heap.size (some ad) x.cl from e0 ▸ HI.out.cl.below hb (Nat.le_refl _)) hy.out 3 (by decide) (.slice y.r.a y.x.p.length y.r.ac) rfl)
        have HRy := hid (HRis.out y hyl)
        have He0 := hid e0
        have i1 : (0 : Int) ≤ (i : Int) := by omega
        have i2 : (i : Int) < (x.cl.length : Int) := by omega
        have Hn := hid (fun (h : risingB y.x.p (x.ps.length : Nat) = true) => show ∀ j z, j < i + 1 → x.cl[j]? = some z → risingB z.x.p (x.ps.length : Nat) = true from fun j z hj hz => by
          rcases Nat.lt_succ_iff_lt_or_eq.1 hj with h' | rfl
          · exact HA.out j z h' hz
          · obtain rfl := Option.some.inj (hz.symm.trans hy.out)
            exact h)
        generalize hq : risingB y.x.p (x.ps.length : Nat) = q at HRy Hn
        clear e0 hy hyl had HA hq
        go_upto_region 6 with fail
        refine wp_region_held_drew (S := fun X => Mem w X [(G, pbc x, 34)]) (by kernel_rfl) KM.out.drew (fun hHeld => ?_)
        refine takeH 0 19 (.pointer (some ⟨G, 7, none⟩)) rfl rfl (by kernel_rfl) (by kernel_rfl) (by kernel_rfl) (fun _ _ _ h => h) (by kernel_rfl) (fun X hX => by clear hX; first | rfl | go_simp) hHeld ?_
        simp only [Act.put, List.setIfInBounds_toArray, List.set_cons_zero, List.set_cons_succ]
        refine takeH 1 20 (.slice (some ad) x.cl.length x.c3) rfl rfl (by kernel_rfl) (by kernel_rfl) (by kernel_rfl) (fun _ _ _ h => h) (by kernel_rfl) (fun X hX => by obtain ⟨p0, p1, p2, p3, p4, p5, p6, p7, p8, p9, p10, p11, p12, p13, p14⟩ := Hcell.out _ hX; rw [He0.out] at p7; clear hX; go_simp) hHeld ?_
        simp only [Act.put, List.setIfInBounds_toArray, List.set_cons_zero, List.set_cons_succ]
        refine takeH 2 21 (.int .i64 i) rfl rfl (by kernel_rfl) (by kernel_rfl) (by kernel_rfl) (fun _ _ _ h => h) (by kernel_rfl) (fun X hX => by clear hX; first | rfl | go_simp) hHeld ?_
        simp only [Act.put, List.setIfInBounds_toArray, List.set_cons_zero, List.set_cons_succ]
        refine takeH 3 22 (.pointer (some (ad.add (i * 7)))) rfl rfl (by kernel_rfl) (by kernel_rfl) (by kernel_rfl) (fun _ _ _ h => h) (by kernel_rfl) (fun X hX => by clear hX; first | rfl | go_simp) hHeld ?_
        simp only [Act.put, List.setIfInBounds_toArray, List.set_cons_zero, List.set_cons_succ]
        refine takeH 4 23 (.pointer (some ⟨(ad.add (i * 7)).block, (ad.add (i * 7)).off + 3, none⟩)) rfl rfl (by kernel_rfl) (by kernel_rfl) (by kernel_rfl) (fun _ _ _ h => h) (by kernel_rfl) (fun X hX => by clear hX; first | rfl | go_simp) hHeld ?_
        simp only [Act.put, List.setIfInBounds_toArray, List.set_cons_zero, List.set_cons_succ]
        refine takeH 5 24 (.slice y.r.a y.x.p.length y.r.ac) rfl rfl (by kernel_rfl) (by kernel_rfl) (by kernel_rfl) (fun _ _ _ h => h) (by kernel_rfl) (fun X hX => by have c := Hrow.out _ hX.2; clear hX; go_simp) hHeld ?_
        simp only [Act.put, List.setIfInBounds_toArray, List.set_cons_zero, List.set_cons_succ]
        refine takeH 6 25 (.pointer (some ⟨G, 6, none⟩)) rfl rfl (by kernel_rfl) (by kernel_rfl) (by kernel_rfl) (fun _ _ _ h => h) (by kernel_rfl) (fun X hX => by clear hX; first | rfl | go_simp) hHeld ?_
        simp only [Act.put, List.setIfInBounds_toArray, List.set_cons_zero, List.set_cons_succ]
        refine takeH 7 26 (.slice x.r2 x.ps.length x.c2) rfl rfl (by kernel_rfl) (by kernel_rfl) (by kernel_rfl) (fun _ _ _ h => h) (by kernel_rfl) (fun X hX => by obtain ⟨p0, p1, p2, p3, p4, p5, p6, p7, p8, p9, p10, p11, p12, p13, p14⟩ := Hcell.out _ hX; clear hX; go_simp) hHeld ?_
        simp only [Act.put, List.setIfInBounds_toArray, List.set_cons_zero, List.set_cons_succ]
        refine takeH 8 27 (.int .i64 (x.ps.length : Nat)) rfl rfl (by kernel_rfl) (by kernel_rfl) (by kernel_rfl) (fun _ _ _ h => h) (by kernel_rfl) (fun X hX => by clear hX; first | rfl | go_simp) hHeld ?_
        simp only [Act.put, List.setIfInBounds_toArray, List.set_cons_zero, List.set_cons_succ]
        have K0 := hid KM.out.drew
        obtain ⟨U, hU⟩ : ∃ U, wr.drew = U := ⟨_, rfl⟩
        rw [hU] at K0 hHeld ⊢
        clear hU KM p0 p1 p2 p3 p4 p5 p6 p7 p8 p9 p10 p11 p12 p13 p14
        refine wpAnyH_ready (rs := [9]) (by kernel_rfl) (by simp) ?_
        refine AllReadyH.cons rfl (fun KK hK => ?_) AllReadyH.nil
        simp only [List.getElem_toArray, List.getElem_cons_succ, List.getElem_cons_zero]
        go_simp
        refine (HRy.out _ K0.out.2).mono ?_
        rintro e Y1 ⟨rfl, bz⟩
        have K1 := hid (K0.out.next bz)
        clear bz K0
        refine hK.out _ _ K1.out (fun hHeld => ?_)
        clear hK KK
        try simp only [Act.put, List.setIfInBounds_toArray, List.set_cons_zero, List.set_cons_succ]
        cases q with
        | true =>
          refine wpAnyH_ready (rs := [10]) (by kernel_rfl) (by simp) ?_
          refine AllReadyH.cons rfl (fun KK hK => ?_) AllReadyH.nil
          simp only [List.getElem_toArray, List.getElem_cons_succ, List.getElem_cons_zero]
          go_simp
          refine hK.out _ _ K1.out (fun hHeld => ?_)
          clear hK KK
          try simp only [Act.put, List.setIfInBounds_toArray, List.set_cons_zero, List.set_cons_succ]
          refine wpAnyH_done (by kernel_rfl) ?_ _
          clear hHeld
          have Hn1 := hid (Hn.out rfl)
          clear Hn
          go_wp2_with fail
          exact ⟨⟨i + 1, by go_num, by omega, K1, Hn1⟩, by simp [intOf]; omega⟩
        | false =>
          refine wpAnyH_ready (rs := [10]) (by kernel_rfl) (by simp) ?_
          refine AllReadyH.cons rfl (fun KK hK => ?_) AllReadyH.nil
          simp only [List.getElem_toArray, List.getElem_cons_succ, List.getElem_cons_zero]
          go_simp
          refine hK.out _ _ K1.out (fun hHeld => ?_)
          clear hK KK
          try simp only [Act.put, List.setIfInBounds_toArray, List.set_cons_zero, List.set_cons_succ]
          refine wpAnyH_done (by kernel_rfl) ?_ _
          clear hHeld Hn
          go_wp2_with fail
          refine (HH.out _).mono ?_
          rintro e Y2 ⟨rfl, bz⟩
          have K2 := hid (K1.out.next bz)
          go_wp2_with fail
          go_ret
          exact Did.mk rfl K2.out.2
      · obtain rfl : i = x.cl.length := by omega
        have i2 : ¬ (x.cl.length : Int) < (x.cl.length : Int) := by omega
        have hall := hid (show ∀ y ∈ x.cl, risingB y.x.p (x.ps.length : Nat) = true from fun y hy => by
          obtain ⟨j, hj⟩ := List.mem_iff_getElem?.1 hy
          exact HA.out j y (List.getElem?_eq_some_iff.1 hj).1 hj)
        have HP2 := hid (HP1.out hall.out)
        have HQ2 := hid (HQ1.out hall.out)
        clear HP1 HQ1 HA hall HRis
        go_upto_region 8 with fail
        clear p0 p1 p2 p3 p4 p5 p6 p7 p8 p9 p10 p11 p12 p13 p14
        refine wp_region_held_drew (S := fun X => Mem w X [(G, pbc x, 34)]) (by kernel_rfl) KM.out.drew (fun hHeld => ?_)
        refine takeH 0 31 (.agg #[txt x.n, .int .i64 x.g.w, .int .i64 x.g.d, .int .i64 x.g.s, .slice x.r0 x.rm.length x.c0, .slice x.r1 x.wk.length x.c1, .slice x.r2 x.ps.length x.c2, .slice x.r3 x.cl.length x.c3, .slice x.r4 x.cs.length x.c4, .slice x.r5 x.st.length x.c5, .slice x.r6 x.rl.length x.c6, .int .i64 x.w0, .int .i64 x.w1, .int .i64 x.w2, .int .i64 x.w3]) rfl rfl (by kernel_rfl) (by kernel_rfl) (by kernel_rfl) (fun _ _ _ h => h) (by kernel_rfl) (fun X hX => by obtain ⟨p0, p1, p2, p3, p4, p5, p6, p7, p8, p9, p10, p11, p12, p13, p14⟩ := Hcell.out _ hX; clear hX; go_simp) hHeld ?_
        simp only [Act.put, List.setIfInBounds_toArray, List.set_cons_zero, List.set_cons_succ]
        refine takeH 1 32 (.int .i64 a1) rfl rfl (by kernel_rfl) (by kernel_rfl) (by kernel_rfl) (fun _ _ _ h => h) (by kernel_rfl) (fun X hX => by clear hX; first | rfl | go_simp) hHeld ?_
        simp only [Act.put, List.setIfInBounds_toArray, List.set_cons_zero, List.set_cons_succ]
        refine takeH 2 33 (.int .i64 a2) rfl rfl (by kernel_rfl) (by kernel_rfl) (by kernel_rfl) (fun _ _ _ h => h) (by kernel_rfl) (fun X hX => by clear hX; first | rfl | go_simp) hHeld ?_
        simp only [Act.put, List.setIfInBounds_toArray, List.set_cons_zero, List.set_cons_succ]
        refine takeH 4 35 (.agg #[txt x.n, .int .i64 x.g.w, .int .i64 x.g.d, .int .i64 x.g.s, .slice x.r0 x.rm.length x.c0, .slice x.r1 x.wk.length x.c1, .slice x.r2 x.ps.length x.c2, .slice x.r3 x.cl.length x.c3, .slice x.r4 x.cs.length x.c4, .slice x.r5 x.st.length x.c5, .slice x.r6 x.rl.length x.c6, .int .i64 x.w0, .int .i64 x.w1, .int .i64 x.w2, .int .i64 x.w3]) rfl rfl (by kernel_rfl) (by kernel_rfl) (by kernel_rfl) (fun _ _ _ h => h) (by kernel_rfl) (fun X hX => by obtain ⟨p0, p1, p2, p3, p4, p5, p6, p7, p8, p9, p10, p11, p12, p13, p14⟩ := Hcell.out _ hX; clear hX; go_simp) hHeld ?_
        simp only [Act.put, List.setIfInBounds_toArray, List.set_cons_zero, List.set_cons_succ]
        refine takeH 5 36 (.int .i64 a1) rfl rfl (by kernel_rfl) (by kernel_rfl) (by kernel_rfl) (fun _ _ _ h => h) (by kernel_rfl) (fun X hX => by clear hX; first | rfl | go_simp) hHeld ?_
        simp only [Act.put, List.setIfInBounds_toArray, List.set_cons_zero, List.set_cons_succ]
        refine takeH 6 37 (.int .i64 a2) rfl rfl (by kernel_rfl) (by kernel_rfl) (by kernel_rfl) (fun _ _ _ h => h) (by kernel_rfl) (fun X hX => by clear hX; first | rfl | go_simp) hHeld ?_
        simp only [Act.put, List.setIfInBounds_toArray, List.set_cons_zero, List.set_cons_succ]
        have K0 := hid KM.out.drew
        obtain ⟨U, hU⟩ : ∃ U, wr.drew = U := ⟨_, rfl⟩
        rw [hU] at K0 hHeld ⊢
        clear hU KM
        refine wpAnyH_ready (rs := [3]) (by kernel_rfl) (by simp) ?_
        refine AllReadyH.cons rfl (fun KK hK => ?_) AllReadyH.nil
        simp only [List.getElem_toArray, List.getElem_cons_succ, List.getElem_cons_zero]
        go_simp
        refine (HP2.out _ K0.out.2).mono ?_
        rintro e Y0 ⟨A, cA, rfl, hA, bz⟩
        have K1 := hid (K0.out.next bz)
        have HA := hid hA
        clear hA
        clear bz K0
        refine hK.out _ _ K1.out (fun hHeld => ?_)
        clear hK KK
        try simp only [Act.put, List.setIfInBounds_toArray, List.set_cons_zero, List.set_cons_succ]
        refine wpAnyH_ready (rs := [7]) (by kernel_rfl) (by simp) ?_
        refine AllReadyH.cons rfl (fun KK hK => ?_) AllReadyH.nil
        simp only [List.getElem_toArray, List.getElem_cons_succ, List.getElem_cons_zero]
        go_simp
        refine (HR.out _ K1.out.2).mono ?_
        rintro e Y1 ⟨B, cB, rfl, hB, bz⟩
        have K2 := hid (K1.out.next bz)
        have HA := hid (its_next HA.out bz)
        have HB := hid hB
        clear hB
        clear bz K1
        refine hK.out _ _ K2.out (fun hHeld => ?_)
        clear hK KK
        try simp only [Act.put, List.setIfInBounds_toArray, List.set_cons_zero, List.set_cons_succ]
        refine wpAnyH_ready (rs := [8]) (by kernel_rfl) (by simp) ?_
        refine AllReadyH.cons rfl (fun KK hK => ?_) AllReadyH.nil
        simp only [List.getElem_toArray, List.getElem_cons_succ, List.getElem_cons_zero]
        go_simp
        refine (HE.out _ _ _ _ _ HA.out HB.out).mono ?_
        rintro e Y2 ⟨rfl, bz⟩
        have K3 := hid (K2.out.next bz)
        clear bz K2
        refine hK.out _ _ K3.out (fun hHeld => ?_)
        clear hK KK
        try simp only [Act.put, List.setIfInBounds_toArray, List.set_cons_zero, List.set_cons_succ]
        clear HA HB
        as_aux_lemma =>
          refine takeH 9 40 (.bool true) rfl rfl (by kernel_rfl) (by kernel_rfl) (by kernel_rfl) (fun _ _ _ h => h) (by kernel_rfl) (fun X hX => by clear hX; first | rfl | go_simp) hHeld ?_
          simp only [Act.put, List.setIfInBounds_toArray, List.set_cons_zero, List.set_cons_succ]
          refine takeH 10 41 (.agg #[txt x.n, .int .i64 x.g.w, .int .i64 x.g.d, .int .i64 x.g.s, .slice x.r0 x.rm.length x.c0, .slice x.r1 x.wk.length x.c1, .slice x.r2 x.ps.length x.c2, .slice x.r3 x.cl.length x.c3, .slice x.r4 x.cs.length x.c4, .slice x.r5 x.st.length x.c5, .slice x.r6 x.rl.length x.c6, .int .i64 x.w0, .int .i64 x.w1, .int .i64 x.w2, .int .i64 x.w3]) rfl rfl (by kernel_rfl) (by kernel_rfl) (by kernel_rfl) (fun _ _ _ h => h) (by kernel_rfl) (fun X hX => by obtain ⟨p0, p1, p2, p3, p4, p5, p6, p7, p8, p9, p10, p11, p12, p13, p14⟩ := Hcell.out _ hX; clear hX; go_simp) hHeld ?_
          simp only [Act.put, List.setIfInBounds_toArray, List.set_cons_zero, List.set_cons_succ]
          refine takeH 11 42 (.int .i64 a2) rfl rfl (by kernel_rfl) (by kernel_rfl) (by kernel_rfl) (fun _ _ _ h => h) (by kernel_rfl) (fun X hX => by clear hX; first | rfl | go_simp) hHeld ?_
          simp only [Act.put, List.setIfInBounds_toArray, List.set_cons_zero, List.set_cons_succ]
          refine takeH 12 43 (.int .i64 a1) rfl rfl (by kernel_rfl) (by kernel_rfl) (by kernel_rfl) (fun _ _ _ h => h) (by kernel_rfl) (fun X hX => by clear hX; first | rfl | go_simp) hHeld ?_
          simp only [Act.put, List.setIfInBounds_toArray, List.set_cons_zero, List.set_cons_succ]
          refine takeH 14 45 (.agg #[txt x.n, .int .i64 x.g.w, .int .i64 x.g.d, .int .i64 x.g.s, .slice x.r0 x.rm.length x.c0, .slice x.r1 x.wk.length x.c1, .slice x.r2 x.ps.length x.c2, .slice x.r3 x.cl.length x.c3, .slice x.r4 x.cs.length x.c4, .slice x.r5 x.st.length x.c5, .slice x.r6 x.rl.length x.c6, .int .i64 x.w0, .int .i64 x.w1, .int .i64 x.w2, .int .i64 x.w3]) rfl rfl (by kernel_rfl) (by kernel_rfl) (by kernel_rfl) (fun _ _ _ h => h) (by kernel_rfl) (fun X hX => by obtain ⟨p0, p1, p2, p3, p4, p5, p6, p7, p8, p9, p10, p11, p12, p13, p14⟩ := Hcell.out _ hX; clear hX; go_simp) hHeld ?_
          simp only [Act.put, List.setIfInBounds_toArray, List.set_cons_zero, List.set_cons_succ]
          refine takeH 15 46 (.int .i64 a1) rfl rfl (by kernel_rfl) (by kernel_rfl) (by kernel_rfl) (fun _ _ _ h => h) (by kernel_rfl) (fun X hX => by clear hX; first | rfl | go_simp) hHeld ?_
          simp only [Act.put, List.setIfInBounds_toArray, List.set_cons_zero, List.set_cons_succ]
          refine takeH 16 47 (.int .i64 a2) rfl rfl (by kernel_rfl) (by kernel_rfl) (by kernel_rfl) (fun _ _ _ h => h) (by kernel_rfl) (fun X hX => by clear hX; first | rfl | go_simp) hHeld ?_
          simp only [Act.put, List.setIfInBounds_toArray, List.set_cons_zero, List.set_cons_succ]
          refine wpAnyH_ready (rs := [13]) (by kernel_rfl) (by simp) ?_
          refine AllReadyH.cons rfl (fun KK hK => ?_) AllReadyH.nil
          simp only [List.getElem_toArray, List.getElem_cons_succ, List.getElem_cons_zero]
          go_simp
          refine (HQ2.out _ K3.out.2).mono ?_
          rintro e Y3 ⟨A, cA, rfl, hA, bz⟩
          have K4 := hid (K3.out.next bz)
          have HA := hid hA
          clear hA
          clear bz K3
          refine hK.out _ _ K4.out (fun hHeld => ?_)
          clear hK KK
          try simp only [Act.put, List.setIfInBounds_toArray, List.set_cons_zero, List.set_cons_succ]
          refine wpAnyH_ready (rs := [17]) (by kernel_rfl) (by simp) ?_
          refine AllReadyH.cons rfl (fun KK hK => ?_) AllReadyH.nil
          simp only [List.getElem_toArray, List.getElem_cons_succ, List.getElem_cons_zero]
          go_simp
          refine (HR.out _ K4.out.2).mono ?_
          rintro e Y4 ⟨B, cB, rfl, hB, bz⟩
          have K5 := hid (K4.out.next bz)
          have HA := hid (its_next HA.out bz)
          have HB := hid hB
          clear hB
          clear bz K4
          refine hK.out _ _ K5.out (fun hHeld => ?_)
          clear hK KK
          try simp only [Act.put, List.setIfInBounds_toArray, List.set_cons_zero, List.set_cons_succ]
          refine wpAnyH_ready (rs := [18]) (by kernel_rfl) (by simp) ?_
          refine AllReadyH.cons rfl (fun KK hK => ?_) AllReadyH.nil
          simp only [List.getElem_toArray, List.getElem_cons_succ, List.getElem_cons_zero]
          go_simp
          refine (HE.out _ _ _ _ _ HA.out HB.out).mono ?_
          rintro e Y5 ⟨rfl, bz⟩
          have K6 := hid (K5.out.next bz)
          clear bz K5
          refine hK.out _ _ K6.out (fun hHeld => ?_)
          clear hK KK
          try simp only [Act.put, List.setIfInBounds_toArray, List.set_cons_zero, List.set_cons_succ]
          refine takeH 19 50 (.bool true) rfl rfl (by kernel_rfl) (by kernel_rfl) (by kernel_rfl) (fun _ _ _ h => h) (by kernel_rfl) (fun X hX => by clear hX; first | rfl | go_simp) hHeld ?_
          simp only [Act.put, List.setIfInBounds_toArray, List.set_cons_zero, List.set_cons_succ]
          refine takeH 20 51 (.bool true) rfl rfl (by kernel_rfl) (by kernel_rfl) (by kernel_rfl) (fun _ _ _ h => h) (by kernel_rfl) (fun X hX => by clear hX; first | rfl | go_simp) hHeld ?_
          simp only [Act.put, List.setIfInBounds_toArray, List.set_cons_zero, List.set_cons_succ]
          refine wpAnyH_ready (rs := [21]) (by kernel_rfl) (by simp) ?_
          refine AllReadyH.cons rfl (fun KK hK => ?_) AllReadyH.nil
          simp only [List.getElem_toArray, List.getElem_cons_succ, List.getElem_cons_zero]
          go_simp
          refine (HH.out _).mono ?_
          rintro e Y6 ⟨rfl, bz⟩
          have K7 := hid (K6.out.next bz)
          clear bz K6
          refine hK.out _ _ K7.out (fun hHeld => ?_)
          clear hK KK
          try simp only [Act.put, List.setIfInBounds_toArray, List.set_cons_zero, List.set_cons_succ]
          refine takeH 22 53 (.bool true) rfl rfl (by kernel_rfl) (by kernel_rfl) (by kernel_rfl) (fun _ _ _ h => h) (by kernel_rfl) (fun X hX => by clear hX; first | rfl | go_simp) hHeld ?_
          simp only [Act.put, List.setIfInBounds_toArray, List.set_cons_zero, List.set_cons_succ]
          refine wpAnyH_ready (rs := [23]) (by kernel_rfl) (by simp) ?_
          refine AllReadyH.cons rfl (fun KK hK => ?_) AllReadyH.nil
          simp only [List.getElem_toArray, List.getElem_cons_succ, List.getElem_cons_zero]
          go_simp
          refine hK.out _ _ K7.out (fun hHeld => ?_)
          clear hK KK
          try simp only [Act.put, List.setIfInBounds_toArray, List.set_cons_zero, List.set_cons_succ]
          refine wpAnyH_done (by kernel_rfl) ?_ _
          clear hHeld
          go_wp2_with fail
          go_ret
          exact Did.mk rfl K7.out.2

/-! ### THE ROW's STEP: WRITTEN OUT: LEAVE IT -/
set_option maxRecDepth 100000 in
theorem lifted (os : Os) (started : os.Started) (H : Type) (enc : TypeId × Value → H) :
    ReturnsInHanded {} Tryz.checked os 8 .any (Rows.problemSharesSpec.pre6 enc Tryz.prog Tryz.f8 Rows.problemSharesRow.domain false) (Rows.problemSharesSpec.post enc Tryz.prog Tryz.f8 false true false false) := by
  refine returnsInHanded_of_change (C := Tryz.checked) own started (by kernel_rfl) Tryz.func8
    (ChangeSpec.witness6 (enc := enc) (C := Tryz.checked) false ⟨#[], #[.agg #[.string ⟨#[]⟩, .int .i64 0, .int .i64 0, .int .i64 0, .slice none 0 0, .slice none 0 0, .slice none 0 0, .slice none 0 0, .slice none 0 0, .slice none 0 0, .slice none 0 0, .int .i64 0, .int .i64 0, .int .i64 0, .int .i64 0], .int .i64 0, .int .i64 0], []⟩ 8 (by kernel_rfl) (by kernel_rfl) (by kernel_rfl) (by kernel_rfl)) ?_
  intro W base args ds gs before hval0 hW hcnd _
  have hval : ∀ (j : Nat) t v, Tryz.f8.params[j]? = some t → args[j]? = some v → Value.okWide Tryz.prog W .any base t v := hval0
  have hW' := hW
  obtain ⟨p, q, hA0, hV, rfl, hfz, hnd⟩ := hW
  have hA : DataW.TrodAll enc Tryz.prog W 0 (fun _ => true) true Tryz.f8.params.toList args.toList ds p := hA0
  rw [Tryz.params8] at hA hval
  obtain ⟨v0, vs0, d0, ds0, p0, q0, hargs, rfl, rfl, h0, r0⟩ := trodAll_cons hA
  obtain ⟨v1, vs1, d1, ds1, p1, q1, rfl, rfl, rfl, h1, r1⟩ := trodAll_cons r0
  obtain ⟨v2, vs2, d2, ds2, p2, q2, rfl, rfl, rfl, h2, r2⟩ := trodAll_cons r1
  obtain ⟨rfl, rfl, rfl⟩ := trodAll_nil r2
  obtain rfl : args = #[v0, v1, v2] := by cases args; simp_all
  obtain ⟨rfl, rfl⟩ := trodVars_none hV
  have k0 := h0
  have lt0 : ∀ x ∈ p0, x.block < W.heap.size := by obtain ⟨m, hm⟩ := k0; exact DataW.trod_lt m _ _ _ hm
  obtain ⟨a0, rfl, w0⟩ := open_problem (hval 0 34 v0 rfl rfl) h0
  obtain ⟨a1, rfl, rfl, rfl, w1⟩ := open_int Tryz.underlying3 (hval 1 3 v1 rfl rfl) h1
  obtain ⟨a2, rfl, rfl, rfl, w2⟩ := open_int Tryz.underlying3 (hval 2 3 v2 rfl rfl) h2
  clear hA0 hval0
  refine (walk a0 a1 a2 W w0 w1 w2).mono fun e W' ⟨he, bel⟩ => ?_
  subst he
  exact ⟨_, rfl, _, _, _, [], _, [], hW', trodAll_mk1 (shut_bool Tryz.underlying4 _), (trodAll_cons_mk (Below.trod laidOut (by kernel_rfl) (of_decide_eq_true (by kernel_rfl)) k0 bel lt0) (trodAll_cons_mk (shut_int Tryz.underlying3 w1) (trodAll_cons_mk (shut_int Tryz.underlying3 w2) trodAll_mk0))), rfl, bel.frame _, fun h => by cases h⟩

theorem over : Rows.problemSharesRow.holds Tryz.pinned (OpenSpec.ofChange Rows.problemSharesSpec) :=
  OpenClaim.holds_of_wide 8 Tryz.f8 rfl rfl rfl rfl rfl rfl rfl ⟨rfl, rfl, rfl, rfl, rfl⟩ rfl rfl rfl rfl rfl (by kernel_rfl) Tryz.func8 (by kernel_rfl)
    (of_decide_eq_true (by kernel_rfl)) (by unfold Func.isWrapper; first | (rw [if_pos (by decide +kernel)]; kernel_rfl) | (rw [if_neg (by decide +kernel)]; exact ⟨rfl, rfl⟩))
    (fun os started H enc _ => lifted os started H enc)

/-- ████ THE STATEMENT ████ -/
theorem proved : Rows.ProblemSharesSaid := over
#print axioms proved
end Go.Proofs.YtgmgccepmalahaaGreat.problemShares
