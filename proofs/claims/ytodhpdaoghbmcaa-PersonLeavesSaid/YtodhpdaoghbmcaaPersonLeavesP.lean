/- Proves 'PersonLeavesSaid': for every input the Go function PersonLeaves returns true, and each argument reads afterwards as it read before. Conditions: none beyond the row's own. -/
import Derived.Test.YtodhpdaoghbmcaaRows
import Derived.WalkKit
import Derived.ProofKit
import Derived.OpenShut
import Derived.ShutString
import Derived.SliceStrings
import Derived.ChangeOld
import Derived.Below
import Derived.Test.YtodhpdaoghbmcaaPerH
import Derived.Test.YtodhpdaoghbmcaaPerCl
namespace Go.Proofs.Ytodhpdaoghbmcaa.personLeaves
open Go.ChangeShapes Go.WideShapes Go.ChangeAt Go.RowKit
open Go.ChangeMaps (open_string shut_string)
set_option linter.unusedVariables false

theorem own : ownKnob Try.prog.godebug = none := by kernel_rfl
theorem laidOut : laidOutB Try.prog = true := by kernel_rfl

/-- WHAT THE WALK IS TOLD OF A SLICE OF INTEGERS THAT CAME IN: it is nil; or it leads to a row of 'cap' cells, the numbers 'zs' (the first 'len' are its elements, the rest its spare room), each fitting its kind. -/
def IsRow (k : IntKind) (w : World) (a : Option Addr) (len cap : Nat) (zs : List Int) : Prop :=
  (a = none ∧ len = 0 ∧ cap = 0 ∧ zs = []) ∨
  ∃ x, a = some x ∧ len ≤ cap ∧ cap ≤ maxLen ∧ zs.length = cap ∧ (∀ i, i < zs.length → w.cell? (x.add i) = some (.int k (zs.getD i 0))) ∧ ∀ n ∈ zs, (Lit.int k n).wf = true

/-! ### STEP 1: THE WALK: the Go text returns true, AND WRITES NOTHING THAT WAS THERE: 'Below w.heap.size w w'' (Derived/Below.lean: '.refl', '.alloc', '.drew', '.setCell' at a new block, '.trans'). Open each 'IsRow' by 'rcases' AHEAD of 'go_enter'; part every test ahead of the walk. -/
set_option maxRecDepth 20000 in
set_option maxHeartbeats 16000000 in
theorem walk (a0 : PsA) (a1 : Whn.Wh) (w : World) (w0 : PsIn w a0) (w1 : Wok a1) :
    Calls Try.prog 7 #[pvA a0, wv a1] w fun e w' => e = .returned (.bool true) ∧ Below w.heap.size w w' := by
  obtain ⟨r, A, c⟩ := a0
  obtain ⟨hok, hw1, hlc, hcm⟩ := w0
  simp only at hok hw1 hlc hcm
  show Calls Try.prog 7 #[pv r A c, wv a1] w (Did (.bool true) w)
  have H := hid hw1
  have HF := hid (fun X => p_fewL A r.l.length c X)
  have HH := hid (fun X => hd_okP X)
  have HSS := hid (fun x A A2 c c2 hm X h h2 => r_SameSelfP x A A2 c c2 hm X h h2)
  have HSP := hid (fun x A A2 c c2 hm X h h2 => p_SameSelfP x A A2 c c2 hm X h h2)
  have HQ1 := hid (fun (x : Ps) A2 c2 hm X h h2 => p_SameP x r A2 A c2 c (show x.l.length ≤ maxLen from hm) X h h2)
  have HQ2 := hid (fun (x : Ps) A2 c2 hm X h h2 => r_SameP x r A2 A c2 c (show x.l.length ≤ maxLen from hm) X h h2)
  obtain ⟨P, W1, hP, hW1, K1, z1⟩ := (Mem.nil w).one (pc r A c) 26
  obtain ⟨D, W2, hD, hW2, K2, z2⟩ := K1.out.one (wc a1) 29
  clear z1 z2 K1 hok hw1 hcm w1
  obtain ⟨r0, r1⟩ := K2.out.ps (B := P) (p := r) (A := A) (c := c) (by simp)
  by_cases hf : (r.l.length : Int) ≤ 30
  · have hf1 : fewL r.l.length = true := decide_eq_true hf
    rw [hf1] at HF
    obtain ⟨ra, ka, lp, T1, T2, T3, T4, T5⟩ := twin_leave r A c (by omega) a1
    obtain ⟨rb, kb, lq, U1, U2, U3, U4, U5⟩ := twin_return r A c (by omega) hlc a1
    have T1 := hid T1
    have T2 := hid T2
    have T5 := hid T5
    have U1 := hid U1
    have U2 := hid U2
    have U5 := hid U5
    have hmx : ra.l.length ≤ maxLen := by unfold maxLen; omega
    have HQ1 := hid (fun A2 c2 X h h2 => HQ1.out ra A2 c2 hmx X h h2)
    have HQ2 := hid (fun A2 c2 X h h2 => HQ2.out ra A2 c2 hmx X h h2)
    generalize psEq ra r = qq at *
    clear hf hf1 hmx
    go_enter Try.func7, Try.ntmps7
    go_wp2_with fail
    refine (HF.out _).mono ?_
    rintro e Y1 ⟨rfl, rfl⟩
    have K3 := K2
    clear r0 r1 K2
    obtain ⟨r0, r1⟩ := K3.out.ps (B := P) (p := r) (A := A) (c := c) (by simp)
    obtain ⟨c0, c1, c2, c3⟩ := K3.out.wh (B := D) (x := a1) (by simp)
    go_wp2_with fail
    refine (T1.out _ ((H.out.below K3.out.2 (Nat.le_refl _)).more K3.out.2.size)).mono ?_
    rintro e Y2 ⟨Aa, ca, rfl, hwa, hca, b2⟩
    have K4 := hid (K3.out.next b2)
    obtain ⟨B1, V1, hB1, hV1, K5, y1⟩ := K4.out.one (pc ra Aa ca) 26
    have hwa1 := hid ((hwa.below y1 (Nat.le_refl _)).more y1.size)
    clear r0 r1 c0 c1 c2 c3 b2 K3 K4 y1 hwa
    obtain ⟨r0, r1⟩ := K5.out.ps (B := P) (p := r) (A := A) (c := c) (by simp)
    obtain ⟨c0, c1, c2, c3⟩ := K5.out.wh (B := D) (x := a1) (by simp)
    go_wp2_with fail
    refine (T2.out _ ((H.out.below K5.out.2 (Nat.le_refl _)).more K5.out.2.size)).mono ?_
    rintro e Y3 ⟨Al, cl, rfl, hwl, hcl, b2⟩
    have K6 := hid (K5.out.next b2)
    have hwa2 := hid ((hwa1.out.below b2 (Nat.le_refl _)).more b2.size)
    have hwl1 := hid (show Whs Y3 Y3.heap.size Al lp from hwl)
    clear r0 r1 c0 c1 c2 c3 b2 K5 hwa1 hwl
    obtain ⟨r0, r1⟩ := K6.out.ps (B := P) (p := r) (A := A) (c := c) (by simp)
    obtain ⟨c0, c1, c2, c3⟩ := K6.out.wh (B := D) (x := a1) (by simp)
    go_wp2_with fail
    refine (U1.out _ ((H.out.below K6.out.2 (Nat.le_refl _)).more K6.out.2.size)).mono ?_
    rintro e Y4 ⟨Ab, cb, rfl, hwb, hcb, b2⟩
    have K7 := hid (K6.out.next b2)
    obtain ⟨B2, V2, hB2, hV2, K8, y1⟩ := K7.out.one (pc rb Ab cb) 26
    have b3 := b2.trans (y1.mono b2.size)
    have hwa3 := hid ((hwa2.out.below b3 (Nat.le_refl _)).more b3.size)
    have hwl2 := hid ((hwl1.out.below b3 (Nat.le_refl _)).more b3.size)
    have hwb1 := hid ((hwb.below y1 (Nat.le_refl _)).more y1.size)
    clear r0 r1 c0 c1 c2 c3 b2 b3 K6 K7 y1 hwa2 hwl1 hwb
    obtain ⟨r0, r1⟩ := K8.out.ps (B := P) (p := r) (A := A) (c := c) (by simp)
    obtain ⟨c0, c1, c2, c3⟩ := K8.out.wh (B := D) (x := a1) (by simp)
    go_wp2_with fail
    refine (U2.out _ ((H.out.below K8.out.2 (Nat.le_refl _)).more K8.out.2.size)).mono ?_
    rintro e Y5 ⟨Am, cm, rfl, hwm, hcm, b2⟩
    have K9 := hid (K8.out.next b2)
    have hwa4 := hid ((hwa3.out.below b2 (Nat.le_refl _)).more b2.size)
    have hwl3 := hid ((hwl2.out.below b2 (Nat.le_refl _)).more b2.size)
    have hwb2 := hid ((hwb1.out.below b2 (Nat.le_refl _)).more b2.size)
    have hwm1 := hid (show Whs Y5 Y5.heap.size Am lq from hwm)
    clear r0 r1 c0 c1 c2 c3 b2 K8 hwa3 hwl2 hwb1 hwm
    go_wp2_with fail
    have v1 : Whs Y5.drew Y5.drew.heap.size Aa ra.l := hwa4.out
    have v2 : Whs Y5.drew Y5.drew.heap.size Al lp := hwl3.out
    have v3 : Whs Y5.drew Y5.drew.heap.size Ab rb.l := hwb2.out
    have v4 : Whs Y5.drew Y5.drew.heap.size Am lq := hwm1.out
    refine wp_region_held_drew (S := fun X => Mem w X [(B2, pc rb Ab cb, 26), (B1, pc ra Aa ca, 26), (D, wc a1, 29), (P, pc r A c, 26)]) (by kernel_rfl) K9.out.drew (fun hHeld => ?_)
    refine takeH 0 44 (pv ra Aa ca) rfl rfl (by kernel_rfl) (by kernel_rfl) (by kernel_rfl) (fun _ _ _ h => h) (by kernel_rfl) (fun X hX => by obtain ⟨q0, q1⟩ := hX.ps (B := B1) (p := ra) (A := Aa) (c := ca) (by simp); clear hX; go_simp) hHeld ?_
    simp only [Act.put, List.setIfInBounds_toArray, List.set_cons_zero, List.set_cons_succ]
    refine takeH 1 45 (pv r A c) rfl rfl (by kernel_rfl) (by kernel_rfl) (by kernel_rfl) (fun _ _ _ h => h) (by kernel_rfl) (fun X hX => by obtain ⟨q0, q1⟩ := hX.ps (B := P) (p := r) (A := A) (c := c) (by simp); clear hX; go_simp) hHeld ?_
    simp only [Act.put, List.setIfInBounds_toArray, List.set_cons_zero, List.set_cons_succ]
    refine takeH 2 46 (.slice Al lp.length cl) rfl rfl (by kernel_rfl) (by kernel_rfl) (by kernel_rfl) (fun _ _ _ h => h) (by kernel_rfl) (fun X hX => by clear hX; first | rfl | go_simp) hHeld ?_
    simp only [Act.put, List.setIfInBounds_toArray, List.set_cons_zero, List.set_cons_succ]
    refine takeH 3 47 (.int .i64 (ka : Int)) rfl rfl (by kernel_rfl) (by kernel_rfl) (by kernel_rfl) (fun _ _ _ h => h) (by kernel_rfl) (fun X hX => by clear hX; first | rfl | go_simp) hHeld ?_
    simp only [Act.put, List.setIfInBounds_toArray, List.set_cons_zero, List.set_cons_succ]
    refine wpAnyH_ready (rs := [4]) (by kernel_rfl) (by simp) ?_
    refine AllReadyH.cons rfl (fun KK hK => ?_) AllReadyH.nil
    simp only [List.getElem_toArray, List.getElem_cons_succ, List.getElem_cons_zero]
    go_simp
    refine (T5.out Al cl _ v2).mono ?_
    rintro e Z11 ⟨A11, c11, rfl, u11, b11⟩
    have K11 := K9.out.drew.next b11
    have v1_11 := (v1.below b11 (Nat.le_refl _)).more b11.size
    have v2_11 := (v2.below b11 (Nat.le_refl _)).more b11.size
    have v3_11 := (v3.below b11 (Nat.le_refl _)).more b11.size
    have v4_11 := (v4.below b11 (Nat.le_refl _)).more b11.size
    refine hK.out _ _ K11 (fun hHeld => ?_)
    clear hK KK
    try simp only [Act.put, List.setIfInBounds_toArray, List.set_cons_zero, List.set_cons_succ]
    refine wpAnyH_ready (rs := [5]) (by kernel_rfl) (by simp) ?_
    refine AllReadyH.cons rfl (fun KK hK => ?_) AllReadyH.nil
    simp only [List.getElem_toArray, List.getElem_cons_succ, List.getElem_cons_zero]
    go_simp
    refine (HSS.out ra Aa A11 ca c11 T4 _ v1_11 u11).mono ?_
    rintro e Z12 ⟨rfl, b12⟩
    have K12 := K11.next b12
    have v1_12 := (v1_11.below b12 (Nat.le_refl _)).more b12.size
    have v2_12 := (v2_11.below b12 (Nat.le_refl _)).more b12.size
    have v3_12 := (v3_11.below b12 (Nat.le_refl _)).more b12.size
    have v4_12 := (v4_11.below b12 (Nat.le_refl _)).more b12.size
    have vg1_12 := (u11.below b12 (Nat.le_refl _)).more b12.size
    refine hK.out _ _ K12 (fun hHeld => ?_)
    clear hK KK
    try simp only [Act.put, List.setIfInBounds_toArray, List.set_cons_zero, List.set_cons_succ]
    refine takeH 6 50 (.bool true) rfl rfl (by kernel_rfl) (by kernel_rfl) (by kernel_rfl) (fun _ _ _ h => h) (by kernel_rfl) (fun X hX => by clear hX; first | rfl | go_simp) hHeld ?_
    simp only [Act.put, List.setIfInBounds_toArray, List.set_cons_zero, List.set_cons_succ]
    refine takeH 7 51 (.int .i64 (ka : Int)) rfl rfl (by kernel_rfl) (by kernel_rfl) (by kernel_rfl) (fun _ _ _ h => h) (by kernel_rfl) (fun X hX => by clear hX; first | rfl | go_simp) hHeld ?_
    simp only [Act.put, List.setIfInBounds_toArray, List.set_cons_zero, List.set_cons_succ]
    refine takeH 8 52 (.int .i64 (ka : Int)) rfl rfl (by kernel_rfl) (by kernel_rfl) (by kernel_rfl) (fun _ _ _ h => h) (by kernel_rfl) (fun X hX => by clear hX; first | rfl | go_simp) hHeld ?_
    simp only [Act.put, List.setIfInBounds_toArray, List.set_cons_zero, List.set_cons_succ]
    refine takeH 9 53 (.bool true) rfl rfl (by kernel_rfl) (by kernel_rfl) (by kernel_rfl) (fun _ _ _ h => h) (by kernel_rfl) (fun X hX => by clear hX; first | rfl | go_simp) hHeld ?_
    simp only [Act.put, List.setIfInBounds_toArray, List.set_cons_zero, List.set_cons_succ]
    refine takeH 10 54 (.bool true) rfl rfl (by kernel_rfl) (by kernel_rfl) (by kernel_rfl) (fun _ _ _ h => h) (by kernel_rfl) (fun X hX => by clear hX; first | rfl | go_simp) hHeld ?_
    simp only [Act.put, List.setIfInBounds_toArray, List.set_cons_zero, List.set_cons_succ]
    refine takeH 11 55 (.bool true) rfl rfl (by kernel_rfl) (by kernel_rfl) (by kernel_rfl) (fun _ _ _ h => h) (by kernel_rfl) (fun X hX => by clear hX; first | rfl | go_simp) hHeld ?_
    simp only [Act.put, List.setIfInBounds_toArray, List.set_cons_zero, List.set_cons_succ]
    refine takeH 12 56 (pv rb Ab cb) rfl rfl (by kernel_rfl) (by kernel_rfl) (by kernel_rfl) (fun _ _ _ h => h) (by kernel_rfl) (fun X hX => by obtain ⟨q0, q1⟩ := hX.ps (B := B2) (p := rb) (A := Ab) (c := cb) (by simp); clear hX; go_simp) hHeld ?_
    simp only [Act.put, List.setIfInBounds_toArray, List.set_cons_zero, List.set_cons_succ]
    refine takeH 13 57 (pv r A c) rfl rfl (by kernel_rfl) (by kernel_rfl) (by kernel_rfl) (fun _ _ _ h => h) (by kernel_rfl) (fun X hX => by obtain ⟨q0, q1⟩ := hX.ps (B := P) (p := r) (A := A) (c := c) (by simp); clear hX; go_simp) hHeld ?_
    simp only [Act.put, List.setIfInBounds_toArray, List.set_cons_zero, List.set_cons_succ]
    refine takeH 14 58 (.slice Am lq.length cm) rfl rfl (by kernel_rfl) (by kernel_rfl) (by kernel_rfl) (fun _ _ _ h => h) (by kernel_rfl) (fun X hX => by clear hX; first | rfl | go_simp) hHeld ?_
    simp only [Act.put, List.setIfInBounds_toArray, List.set_cons_zero, List.set_cons_succ]
    refine takeH 15 59 (.int .i64 (kb : Int)) rfl rfl (by kernel_rfl) (by kernel_rfl) (by kernel_rfl) (fun _ _ _ h => h) (by kernel_rfl) (fun X hX => by clear hX; first | rfl | go_simp) hHeld ?_
    simp only [Act.put, List.setIfInBounds_toArray, List.set_cons_zero, List.set_cons_succ]
    refine wpAnyH_ready (rs := [16]) (by kernel_rfl) (by simp) ?_
    refine AllReadyH.cons rfl (fun KK hK => ?_) AllReadyH.nil
    simp only [List.getElem_toArray, List.getElem_cons_succ, List.getElem_cons_zero]
    go_simp
    refine (U5.out Am cm _ v4_12).mono ?_
    rintro e Z13 ⟨A13, c13, rfl, u13, b13⟩
    have K13 := K12.next b13
    have v1_13 := (v1_12.below b13 (Nat.le_refl _)).more b13.size
    have v2_13 := (v2_12.below b13 (Nat.le_refl _)).more b13.size
    have v3_13 := (v3_12.below b13 (Nat.le_refl _)).more b13.size
    have v4_13 := (v4_12.below b13 (Nat.le_refl _)).more b13.size
    have vg1_13 := (vg1_12.below b13 (Nat.le_refl _)).more b13.size
    refine hK.out _ _ K13 (fun hHeld => ?_)
    clear hK KK
    try simp only [Act.put, List.setIfInBounds_toArray, List.set_cons_zero, List.set_cons_succ]
    refine wpAnyH_ready (rs := [17]) (by kernel_rfl) (by simp) ?_
    refine AllReadyH.cons rfl (fun KK hK => ?_) AllReadyH.nil
    simp only [List.getElem_toArray, List.getElem_cons_succ, List.getElem_cons_zero]
    go_simp
    refine (HSS.out rb Ab A13 cb c13 U4 _ v3_13 u13).mono ?_
    rintro e Z14 ⟨rfl, b14⟩
    have K14 := K13.next b14
    have v1_14 := (v1_13.below b14 (Nat.le_refl _)).more b14.size
    have v2_14 := (v2_13.below b14 (Nat.le_refl _)).more b14.size
    have v3_14 := (v3_13.below b14 (Nat.le_refl _)).more b14.size
    have v4_14 := (v4_13.below b14 (Nat.le_refl _)).more b14.size
    have vg1_14 := (vg1_13.below b14 (Nat.le_refl _)).more b14.size
    have vg2_14 := (u13.below b14 (Nat.le_refl _)).more b14.size
    refine hK.out _ _ K14 (fun hHeld => ?_)
    clear hK KK
    try simp only [Act.put, List.setIfInBounds_toArray, List.set_cons_zero, List.set_cons_succ]
    refine takeH 18 62 (.bool true) rfl rfl (by kernel_rfl) (by kernel_rfl) (by kernel_rfl) (fun _ _ _ h => h) (by kernel_rfl) (fun X hX => by clear hX; first | rfl | go_simp) hHeld ?_
    simp only [Act.put, List.setIfInBounds_toArray, List.set_cons_zero, List.set_cons_succ]
    refine takeH 19 63 (.bool true) rfl rfl (by kernel_rfl) (by kernel_rfl) (by kernel_rfl) (fun _ _ _ h => h) (by kernel_rfl) (fun X hX => by clear hX; first | rfl | go_simp) hHeld ?_
    simp only [Act.put, List.setIfInBounds_toArray, List.set_cons_zero, List.set_cons_succ]
    refine takeH 20 64 (.int .i64 (kb : Int)) rfl rfl (by kernel_rfl) (by kernel_rfl) (by kernel_rfl) (fun _ _ _ h => h) (by kernel_rfl) (fun X hX => by clear hX; first | rfl | go_simp) hHeld ?_
    simp only [Act.put, List.setIfInBounds_toArray, List.set_cons_zero, List.set_cons_succ]
    refine takeH 21 65 (.int .i64 (kb : Int)) rfl rfl (by kernel_rfl) (by kernel_rfl) (by kernel_rfl) (fun _ _ _ h => h) (by kernel_rfl) (fun X hX => by clear hX; first | rfl | go_simp) hHeld ?_
    simp only [Act.put, List.setIfInBounds_toArray, List.set_cons_zero, List.set_cons_succ]
    refine takeH 22 66 (.bool true) rfl rfl (by kernel_rfl) (by kernel_rfl) (by kernel_rfl) (fun _ _ _ h => h) (by kernel_rfl) (fun X hX => by clear hX; first | rfl | go_simp) hHeld ?_
    simp only [Act.put, List.setIfInBounds_toArray, List.set_cons_zero, List.set_cons_succ]
    refine takeH 23 67 (.bool true) rfl rfl (by kernel_rfl) (by kernel_rfl) (by kernel_rfl) (fun _ _ _ h => h) (by kernel_rfl) (fun X hX => by clear hX; first | rfl | go_simp) hHeld ?_
    simp only [Act.put, List.setIfInBounds_toArray, List.set_cons_zero, List.set_cons_succ]
    refine takeH 24 68 (.bool true) rfl rfl (by kernel_rfl) (by kernel_rfl) (by kernel_rfl) (fun _ _ _ h => h) (by kernel_rfl) (fun X hX => by clear hX; first | rfl | go_simp) hHeld ?_
    simp only [Act.put, List.setIfInBounds_toArray, List.set_cons_zero, List.set_cons_succ]
    refine takeH 25 69 (pv ra Aa ca) rfl rfl (by kernel_rfl) (by kernel_rfl) (by kernel_rfl) (fun _ _ _ h => h) (by kernel_rfl) (fun X hX => by obtain ⟨q0, q1⟩ := hX.ps (B := B1) (p := ra) (A := Aa) (c := ca) (by simp); clear hX; go_simp) hHeld ?_
    simp only [Act.put, List.setIfInBounds_toArray, List.set_cons_zero, List.set_cons_succ]
    refine takeH 26 70 (pv r A c) rfl rfl (by kernel_rfl) (by kernel_rfl) (by kernel_rfl) (fun _ _ _ h => h) (by kernel_rfl) (fun X hX => by obtain ⟨q0, q1⟩ := hX.ps (B := P) (p := r) (A := A) (c := c) (by simp); clear hX; go_simp) hHeld ?_
    simp only [Act.put, List.setIfInBounds_toArray, List.set_cons_zero, List.set_cons_succ]
    refine takeH 27 71 (.slice Al lp.length cl) rfl rfl (by kernel_rfl) (by kernel_rfl) (by kernel_rfl) (fun _ _ _ h => h) (by kernel_rfl) (fun X hX => by clear hX; first | rfl | go_simp) hHeld ?_
    simp only [Act.put, List.setIfInBounds_toArray, List.set_cons_zero, List.set_cons_succ]
    refine takeH 28 72 (.int .i64 (ka : Int)) rfl rfl (by kernel_rfl) (by kernel_rfl) (by kernel_rfl) (fun _ _ _ h => h) (by kernel_rfl) (fun X hX => by clear hX; first | rfl | go_simp) hHeld ?_
    simp only [Act.put, List.setIfInBounds_toArray, List.set_cons_zero, List.set_cons_succ]
    refine wpAnyH_ready (rs := [29]) (by kernel_rfl) (by simp) ?_
    refine AllReadyH.cons rfl (fun KK hK => ?_) AllReadyH.nil
    simp only [List.getElem_toArray, List.getElem_cons_succ, List.getElem_cons_zero]
    go_simp
    refine (T5.out Al cl _ v2_14).mono ?_
    rintro e Z15 ⟨A15, c15, rfl, u15, b15⟩
    have K15 := K14.next b15
    have v1_15 := (v1_14.below b15 (Nat.le_refl _)).more b15.size
    have v2_15 := (v2_14.below b15 (Nat.le_refl _)).more b15.size
    have v3_15 := (v3_14.below b15 (Nat.le_refl _)).more b15.size
    have v4_15 := (v4_14.below b15 (Nat.le_refl _)).more b15.size
    have vg1_15 := (vg1_14.below b15 (Nat.le_refl _)).more b15.size
    have vg2_15 := (vg2_14.below b15 (Nat.le_refl _)).more b15.size
    refine hK.out _ _ K15 (fun hHeld => ?_)
    clear hK KK
    try simp only [Act.put, List.setIfInBounds_toArray, List.set_cons_zero, List.set_cons_succ]
    refine wpAnyH_ready (rs := [30]) (by kernel_rfl) (by simp) ?_
    refine AllReadyH.cons rfl (fun KK hK => ?_) AllReadyH.nil
    simp only [List.getElem_toArray, List.getElem_cons_succ, List.getElem_cons_zero]
    go_simp
    refine (HSP.out ra Aa A15 ca c15 T4 _ v1_15 u15).mono ?_
    rintro e Z16 ⟨rfl, b16⟩
    have K16 := K15.next b16
    have v1_16 := (v1_15.below b16 (Nat.le_refl _)).more b16.size
    have v2_16 := (v2_15.below b16 (Nat.le_refl _)).more b16.size
    have v3_16 := (v3_15.below b16 (Nat.le_refl _)).more b16.size
    have v4_16 := (v4_15.below b16 (Nat.le_refl _)).more b16.size
    have vg1_16 := (vg1_15.below b16 (Nat.le_refl _)).more b16.size
    have vg2_16 := (vg2_15.below b16 (Nat.le_refl _)).more b16.size
    have vg3_16 := (u15.below b16 (Nat.le_refl _)).more b16.size
    refine hK.out _ _ K16 (fun hHeld => ?_)
    clear hK KK
    try simp only [Act.put, List.setIfInBounds_toArray, List.set_cons_zero, List.set_cons_succ]
    refine takeH 31 75 (.bool true) rfl rfl (by kernel_rfl) (by kernel_rfl) (by kernel_rfl) (fun _ _ _ h => h) (by kernel_rfl) (fun X hX => by clear hX; first | rfl | go_simp) hHeld ?_
    simp only [Act.put, List.setIfInBounds_toArray, List.set_cons_zero, List.set_cons_succ]
    refine takeH 32 76 (.bool true) rfl rfl (by kernel_rfl) (by kernel_rfl) (by kernel_rfl) (fun _ _ _ h => h) (by kernel_rfl) (fun X hX => by clear hX; first | rfl | go_simp) hHeld ?_
    simp only [Act.put, List.setIfInBounds_toArray, List.set_cons_zero, List.set_cons_succ]
    refine takeH 33 77 (pv ra Aa ca) rfl rfl (by kernel_rfl) (by kernel_rfl) (by kernel_rfl) (fun _ _ _ h => h) (by kernel_rfl) (fun X hX => by obtain ⟨q0, q1⟩ := hX.ps (B := B1) (p := ra) (A := Aa) (c := ca) (by simp); clear hX; go_simp) hHeld ?_
    simp only [Act.put, List.setIfInBounds_toArray, List.set_cons_zero, List.set_cons_succ]
    refine takeH 34 78 (pv r A c) rfl rfl (by kernel_rfl) (by kernel_rfl) (by kernel_rfl) (fun _ _ _ h => h) (by kernel_rfl) (fun X hX => by obtain ⟨q0, q1⟩ := hX.ps (B := P) (p := r) (A := A) (c := c) (by simp); clear hX; go_simp) hHeld ?_
    simp only [Act.put, List.setIfInBounds_toArray, List.set_cons_zero, List.set_cons_succ]
    refine takeH 36 80 (pv ra Aa ca) rfl rfl (by kernel_rfl) (by kernel_rfl) (by kernel_rfl) (fun _ _ _ h => h) (by kernel_rfl) (fun X hX => by obtain ⟨q0, q1⟩ := hX.ps (B := B1) (p := ra) (A := Aa) (c := ca) (by simp); clear hX; go_simp) hHeld ?_
    simp only [Act.put, List.setIfInBounds_toArray, List.set_cons_zero, List.set_cons_succ]
    refine takeH 37 81 (pv r A c) rfl rfl (by kernel_rfl) (by kernel_rfl) (by kernel_rfl) (fun _ _ _ h => h) (by kernel_rfl) (fun X hX => by obtain ⟨q0, q1⟩ := hX.ps (B := P) (p := r) (A := A) (c := c) (by simp); clear hX; go_simp) hHeld ?_
    simp only [Act.put, List.setIfInBounds_toArray, List.set_cons_zero, List.set_cons_succ]
    refine wpAnyH_ready (rs := [35]) (by kernel_rfl) (by simp) ?_
    refine AllReadyH.cons rfl (fun KK hK => ?_) AllReadyH.nil
    simp only [List.getElem_toArray, List.getElem_cons_succ, List.getElem_cons_zero]
    go_simp
    refine (HQ1.out Aa ca _ v1_16 ((H.out.below K16.2 (Nat.le_refl _)).more K16.2.size)).mono ?_
    rintro e Z17 ⟨rfl, b17⟩
    have K17 := K16.next b17
    have v1_17 := (v1_16.below b17 (Nat.le_refl _)).more b17.size
    have v2_17 := (v2_16.below b17 (Nat.le_refl _)).more b17.size
    have v3_17 := (v3_16.below b17 (Nat.le_refl _)).more b17.size
    have v4_17 := (v4_16.below b17 (Nat.le_refl _)).more b17.size
    have vg1_17 := (vg1_16.below b17 (Nat.le_refl _)).more b17.size
    have vg2_17 := (vg2_16.below b17 (Nat.le_refl _)).more b17.size
    have vg3_17 := (vg3_16.below b17 (Nat.le_refl _)).more b17.size
    refine hK.out _ _ K17 (fun hHeld => ?_)
    clear hK KK
    try simp only [Act.put, List.setIfInBounds_toArray, List.set_cons_zero, List.set_cons_succ]
    refine wpAnyH_ready (rs := [38]) (by kernel_rfl) (by simp) ?_
    refine AllReadyH.cons rfl (fun KK hK => ?_) AllReadyH.nil
    simp only [List.getElem_toArray, List.getElem_cons_succ, List.getElem_cons_zero]
    go_simp
    refine (HQ2.out Aa ca _ v1_17 ((H.out.below K17.2 (Nat.le_refl _)).more K17.2.size)).mono ?_
    rintro e Z18 ⟨rfl, b18⟩
    have K18 := K17.next b18
    have v1_18 := (v1_17.below b18 (Nat.le_refl _)).more b18.size
    have v2_18 := (v2_17.below b18 (Nat.le_refl _)).more b18.size
    have v3_18 := (v3_17.below b18 (Nat.le_refl _)).more b18.size
    have v4_18 := (v4_17.below b18 (Nat.le_refl _)).more b18.size
    have vg1_18 := (vg1_17.below b18 (Nat.le_refl _)).more b18.size
    have vg2_18 := (vg2_17.below b18 (Nat.le_refl _)).more b18.size
    have vg3_18 := (vg3_17.below b18 (Nat.le_refl _)).more b18.size
    refine hK.out _ _ K18 (fun hHeld => ?_)
    clear hK KK
    try simp only [Act.put, List.setIfInBounds_toArray, List.set_cons_zero, List.set_cons_succ]
    refine takeH 39 83 (.bool true) rfl rfl (by kernel_rfl) (by kernel_rfl) (by kernel_rfl) (fun _ _ _ h => h) (by kernel_rfl) (fun X hX => by clear hX; cases qq <;> go_simp) hHeld ?_
    simp only [Act.put, List.setIfInBounds_toArray, List.set_cons_zero, List.set_cons_succ]
    refine takeH 40 84 (.bool true) rfl rfl (by kernel_rfl) (by kernel_rfl) (by kernel_rfl) (fun _ _ _ h => h) (by kernel_rfl) (fun X hX => by clear hX; first | rfl | go_simp) hHeld ?_
    simp only [Act.put, List.setIfInBounds_toArray, List.set_cons_zero, List.set_cons_succ]
    refine takeH 41 85 (.bool true) rfl rfl (by kernel_rfl) (by kernel_rfl) (by kernel_rfl) (fun _ _ _ h => h) (by kernel_rfl) (fun X hX => by clear hX; first | rfl | go_simp) hHeld ?_
    simp only [Act.put, List.setIfInBounds_toArray, List.set_cons_zero, List.set_cons_succ]
    refine wpAnyH_ready (rs := [42]) (by kernel_rfl) (by simp) ?_
    refine AllReadyH.cons rfl (fun KK hK => ?_) AllReadyH.nil
    simp only [List.getElem_toArray, List.getElem_cons_succ, List.getElem_cons_zero]
    go_simp
    refine (HH.out _).mono ?_
    rintro e Z19 ⟨rfl, b19⟩
    have K19 := K18.next b19
    refine hK.out _ _ K19 (fun hHeld => ?_)
    clear hK KK
    try simp only [Act.put, List.setIfInBounds_toArray, List.set_cons_zero, List.set_cons_succ]
    refine takeH 43 87 (.bool true) rfl rfl (by kernel_rfl) (by kernel_rfl) (by kernel_rfl) (fun _ _ _ h => h) (by kernel_rfl) (fun X hX => by clear hX; first | rfl | go_simp) hHeld ?_
    simp only [Act.put, List.setIfInBounds_toArray, List.set_cons_zero, List.set_cons_succ]
    refine takeH 44 4 (.bool true) rfl rfl (by kernel_rfl) (by kernel_rfl) (by kernel_rfl) (fun _ _ _ h => h) (by kernel_rfl) (fun X hX => by clear hX; first | rfl | go_simp) hHeld ?_
    simp only [Act.put, List.setIfInBounds_toArray, List.set_cons_zero, List.set_cons_succ]
    refine wpAnyH_done (by kernel_rfl) ?_ _
    go_wp2_with fail
    go_ret
    exact ⟨rfl, K19.2⟩
  · have hf1 : fewL r.l.length = false := decide_eq_false hf
    rw [hf1] at HF
    clear hf hf1
    go_enter Try.func7, Try.ntmps7
    go_wp2_with fail
    refine (HF.out _).mono ?_
    rintro e Y1 ⟨rfl, rfl⟩
    go_wp2_with fail
    refine (HH.out _).mono ?_
    rintro e Y2 ⟨rfl, b2⟩
    go_wp2_with fail
    go_ret
    exact Did.mk rfl (K2.out.next b2).2

/-! ### THE ROW's STEP: WRITTEN OUT: LEAVE IT -/
set_option maxRecDepth 100000 in
theorem lifted (os : Os) (started : os.Started) (H : Type) (enc : TypeId × Value → H) :
    ReturnsInHanded {} Try.checked os 7 .any (Rows.personLeavesSpec.pre6 enc Try.prog Try.f7 Rows.personLeavesRow.domain false) (Rows.personLeavesSpec.post enc Try.prog Try.f7 false true false false) := by
  refine returnsInHanded_of_change (C := Try.checked) own started (by kernel_rfl) Try.func7
    (ChangeSpec.witness6 (enc := enc) (C := Try.checked) false ⟨#[], #[.agg #[.string ⟨#[]⟩, .slice none 0 0], .agg #[.int .u32 0, .int .u8 0, .int .i64 0, .int .i64 0]], []⟩ 8 (by kernel_rfl) (by kernel_rfl) (by kernel_rfl) (by kernel_rfl)) ?_
  intro W base args ds gs before hval0 hW hcnd _
  have hval : ∀ (j : Nat) t v, Try.f7.params[j]? = some t → args[j]? = some v → Value.okWide Try.prog W .any base t v := hval0
  have hW' := hW
  obtain ⟨p, q, hA0, hV, rfl, hfz, hnd⟩ := hW
  have hA : DataW.TrodAll enc Try.prog W 0 (fun _ => true) true Try.f7.params.toList args.toList ds p := hA0
  rw [Try.params7] at hA hval
  obtain ⟨v0, vs0, d0, ds0, p0, q0, hargs, rfl, rfl, h0, r0⟩ := trodAll_cons hA
  obtain ⟨v1, vs1, d1, ds1, p1, q1, rfl, rfl, rfl, h1, r1⟩ := trodAll_cons r0
  obtain ⟨rfl, rfl, rfl⟩ := trodAll_nil r1
  obtain rfl : args = #[v0, v1] := by cases args; simp_all
  obtain ⟨rfl, rfl⟩ := trodVars_none hV
  have k0 := h0
  have lt0 : ∀ x ∈ p0, x.block < W.heap.size := by obtain ⟨m, hm⟩ := k0; exact DataW.trod_lt m _ _ _ hm
  obtain ⟨a0, rfl, w0⟩ := open_personA (hval 0 26 v0 rfl rfl) h0
  have k1 := h1
  have lt1 : ∀ x ∈ p1, x.block < W.heap.size := by obtain ⟨m, hm⟩ := k1; exact DataW.trod_lt m _ _ _ hm
  obtain ⟨a1, rfl, w1⟩ := open_wh (hval 1 29 v1 rfl rfl) h1
  clear hA0 hval0
  refine (walk a0 a1 W w0 w1).mono fun e W' ⟨he, bel⟩ => ?_
  subst he
  exact ⟨_, rfl, _, _, _, [], _, [], hW', trodAll_mk1 (shut_bool Try.underlying4 _), (trodAll_cons_mk (Below.trod laidOut (by kernel_rfl) (of_decide_eq_true (by kernel_rfl)) k0 bel lt0) (trodAll_cons_mk (Below.trod laidOut (by kernel_rfl) (of_decide_eq_true (by kernel_rfl)) k1 bel lt1) trodAll_mk0)), rfl, bel.frame _, fun h => by cases h⟩

theorem over : Rows.personLeavesRow.holds Try.pinned (OpenSpec.ofChange Rows.personLeavesSpec) :=
  OpenClaim.holds_of_wide 7 Try.f7 rfl rfl rfl rfl rfl rfl rfl ⟨rfl, rfl, rfl, rfl, rfl⟩ rfl rfl rfl rfl rfl (by kernel_rfl) Try.func7 (by kernel_rfl)
    (of_decide_eq_true (by kernel_rfl)) (by unfold Func.isWrapper; first | (rw [if_pos (by decide +kernel)]; kernel_rfl) | (rw [if_neg (by decide +kernel)]; exact ⟨rfl, rfl⟩))
    (fun os started H enc _ => lifted os started H enc)

/-- ████ THE STATEMENT ████ -/
theorem proved : Rows.PersonLeavesSaid := over
#print axioms proved
end Go.Proofs.Ytodhpdaoghbmcaa.personLeaves
