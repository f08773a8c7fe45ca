/- Proves 'ManyLoadsSaid': for every input the Go function ManyLoads returns true, and each argument reads afterwards as it read before. Conditions: none beyond the row's own. -/
import Derived.Test.YtjjmajhldpoobaaRows
import Derived.WalkKit
import Derived.ProofKit
import Derived.OpenShut
import Derived.ShutString
import Derived.SliceStrings
import Derived.ChangeOld
import Derived.Below
import Derived.Test.YtjjmajhldpoobaaMnyV
namespace Go.Proofs.Ytjjmajhldpoobaa.manyLoads
open Go.ChangeShapes Go.WideShapes Go.ChangeAt Go.RowKit
open Go.ChangeMaps (open_string shut_string)
set_option linter.unusedVariables false

theorem own : ownKnob Try.prog.godebug = none := by kernel_rfl
theorem laidOut : laidOutB Try.prog = true := by kernel_rfl

/-- WHAT THE WALK IS TOLD OF A SLICE OF INTEGERS THAT CAME IN: it is nil; or it leads to a row of 'cap' cells, the numbers 'zs' (the first 'len' are its elements, the rest its spare room), each fitting its kind. -/
def IsRow (k : IntKind) (w : World) (a : Option Addr) (len cap : Nat) (zs : List Int) : Prop :=
  (a = none ∧ len = 0 ∧ cap = 0 ∧ zs = []) ∨
  ∃ x, a = some x ∧ len ≤ cap ∧ cap ≤ maxLen ∧ zs.length = cap ∧ (∀ i, i < zs.length → w.cell? (x.add i) = some (.int k (zs.getD i 0))) ∧ ∀ n ∈ zs, (Lit.int k n).wf = true

/-! ### STEP 1: THE WALK: the Go text returns true, AND WRITES NOTHING THAT WAS THERE: 'Below w.heap.size w w'' (Derived/Below.lean: '.refl', '.alloc', '.drew', '.setCell' at a new block, '.trans'). Open each 'IsRow' by 'rcases' AHEAD of 'go_enter'; part every test ahead of the walk. -/
set_option maxRecDepth 20000 in
set_option maxHeartbeats 16000000 in
theorem walk (a0 : Whn.Gr) (a1 : Int) (a2 : Int) (a3 : Int) (a4 : WsA) (w : World) (w0 : Gok a0) (w1 : (Lit.int .i64 a1).wf = true) (w2 : (Lit.int .u8 a2).wf = true) (w3 : (Lit.int .i64 a3).wf = true) (w4 : WsIn w a4) :
    Calls Try.prog 8 #[gv a0, .int .i64 a1, .int .u8 a2, .int .i64 a3, wsA a4] w fun e w' => e = .returned (.bool true) ∧ Below w.heap.size w w' := by
  obtain ⟨l, A, c⟩ := a4
  obtain ⟨hw, hw1, hw2, hw3⟩ := w4
  simp only at hw hw1 hw2 hw3
  revert w0; generalize a0 = g; intro w0
  show Calls Try.prog 8 #[gv g, .int .i64 a1, .int .u8 a2, .int .i64 a3, .slice A l.length c] w (Did (.bool true) w)
  have hk : I64 a1 := by have := bounds_i64 w1; unfold I64; omega
  have hb : I64 a3 := by have := bounds_i64 w3; unfold I64; omega
  have ha : 0 ≤ a2 ∧ a2 ≤ 255 := by have := bounds_u8 w2; omega
  have HF := hid (fun X => l_few16 l.length A c X)
  have HH := hid (fun X => heads16 own16 X)
  have HO1 := hid (fun hm X h => own16.over g 22 a2 a3 l A c X (by unfold I64; omega) (by unfold I64; omega) hb hw3 hm h)
  have HO2 := hid (fun hm X h => own16.over g 21 a2 a3 l A c X (by unfold I64; omega) (by unfold I64; omega) hb hw3 hm h)
  have HO3 := hid (fun hm X h => own16.over g a1 (a2 + 1) a3 l A c X hk (by unfold I64; omega) hb hw3 hm h)
  have HO4 := hid (fun hm X h => own16.over g a1 a2 a3 l A c X hk (by unfold I64; omega) hb hw3 hm h)
  have HDy := hid (fun hm X h => own16.days g l A c X hw3 hm h)
  have HBu := hid (fun hm X h => own16.busy g l A c X hw3 hm h)
  have hle := Whn.ovr_less g a1 a3 l (a := a2) (c := a2 + 1) (by omega)
  have H21 := hid (Whn.ovr_days g a2 a3 l ha.1)
  have H22 := hid (Whn.ovr_load g a2 a3 l ha.1)
  have hdc := Whn.dayC_bnd g l
  have hN := Whn.daysN_le g
  have hbl := Whn.busy_len g l
  have Hbn := hid (fun D (hD : D < Whn.daysN g) => Whn.busyN_bnd g l hD)
  have Hba := hid (fun D (hD : D < Whn.daysN g) => busy_at (l := l) hD)
  have HoD := hid (fun D => show (fun D => max (Whn.busyN g l D - a2) 0) D = max (Whn.busyN g l D - a2) 0 from rfl)
  have Hod := hid (fun D (hD : D < Whn.daysN g) => show 0 ≤ (fun D => max (Whn.busyN g l D - a2) 0) D ∧ (fun D => max (Whn.busyN g l D - a2) 0) D ≤ 96 by
    have := Hbn.out D hD
    simp only
    omega)
  generalize (fun D => max (Whn.busyN g l D - a2) 0) = F at *
  have Hsb := hid (fun D (hD : D ≤ Whn.daysN g) => show 0 ≤ Whn.sumN F D ∧ Whn.sumN F D ≤ 2000000 by
    have h1 := Whn.sumN_ge (f := F) (n := D) (fun D' hD' => (Hod.out D' (by omega)).1)
    have h2 := Whn.sumN_le (f := F) (n := D) (M := 96) (fun D' hD' => (Hod.out D' (by omega)).2)
    omega)
  have H1 := hid hw
  have n0 : IntKind.i64.wrap a2 = a2 := by rw [IntKind.wrap_i64]; omega
  have n1 : IntKind.i64.wrap (a2 + 1) = a2 + 1 := by rw [IntKind.wrap_i64]; omega
  have n2 : IntKind.i64.wrap (Whn.dayC g l - a2) = Whn.dayC g l - a2 := by rw [IntKind.wrap_i64]; omega
  have n3 : (if Whn.dayC g l - a2 < 0 then 0 else Whn.dayC g l - a2) = Whn.ovr g 21 a2 a3 l := by rw [H21.out]; split <;> omega
  have n4 : (if 0 < Whn.dayC g l - a2 then Whn.dayC g l - a2 else 0) = Whn.ovr g 21 a2 a3 l := by rw [H21.out]; split <;> omega
  have n5 : max (Whn.dayC g l - a2) 0 = Whn.ovr g 21 a2 a3 l := by rw [H21.out]
  clear hw hw1 hw2 hw3 hk hb w0 w1 w2 w3 Hod H21
  obtain ⟨P, W, hP, hW, K1, z0⟩ := (Mem.nil w).one (gc g) 23
  clear z0
  generalize Whn.ovr g 22 a2 a3 l = o1 at *
  generalize Whn.ovr g 21 a2 a3 l = o2 at *
  generalize Whn.ovr g a1 (a2 + 1) a3 l = o3 at *
  generalize Whn.ovr g a1 a2 a3 l = o4 at *
  generalize Whn.dayC g l = dc at *
  generalize Whn.busy g l = bu at *
  generalize Whn.daysN g = N at *
  go_enter Try.func8, Try.ntmps8
  go_wp2_with fail
  refine (HF.out _).mono ?_
  rintro e Y1 ⟨rfl, rfl⟩
  by_cases h12 : l.length ≤ 12
  rotate_left
  · have h12f := decide_eq_false h12
    rw [h12f]
    go_wp2_with fail
    refine (HH.out _).mono ?_
    rintro e Y1 ⟨rfl, bz⟩
    go_wp2_with fail
    go_ret
    exact Did.mk rfl (K1.out.next bz).2
  · have h12t := decide_eq_true h12
    rw [h12t]
    have HO1a := hid (fun X h => HO1.out (by omega) X h)
    have HO2a := hid (fun X h => HO2.out (by omega) X h)
    have HO3a := hid (fun X h => HO3.out (by omega) X h)
    have HO4a := hid (fun X h => HO4.out (by omega) X h)
    have HDya := hid (fun X h => HDy.out (by omega) X h)
    have HBua := hid (fun X h => HBu.out (by omega) X h)
    clear HO1 HO2 HO3 HO4 HDy HBu h12 h12t HF
    obtain ⟨g0, g1, g2⟩ := K1.out.gr (B := P) (g := g) (by simp)
    go_wp2_with fail
    refine (HBua.out _ ((H1.out.below K1.out.2 (Nat.le_refl _)).more K1.out.2.size)).mono ?_
    rintro e Y1 ⟨AB, cb, rfl, hits, bz⟩
    have K2 := hid (K1.out.next bz)
    have HI1 := hid hits
    clear g0 g1 g2 bz K1 hits HBua
    go_wp2_with fail
    go_loopw [11, 13] (fun nv dv wr => ∃ D : Nat, dv = .int .i64 D ∧ D ≤ N ∧ nv = .int .i64 (Whn.sumN F D) ∧ Hid (Mem w wr [(P, gc g, 23)]) ∧ Hid (Below Y1.heap.size Y1 wr)) (fun _ dv _ => N - (intOf dv).toNat)
    case atStart => exact ⟨0, rfl, Nat.zero_le _, rfl, K2, hid (Below.refl _ _)⟩
    case round =>
      clear K2
      obtain ⟨D, rfl, hD, rfl, KM, HBy⟩ := hrel
      have hsb := Hsb.out D hD
      by_cases hlt : D < N
      · skip
        have b1 : (0 : Int) ≤ (D : Int) := by omega
        have b2 : (D : Int) < (bu.length : Int) := by omega
        have hsb2 := Hsb.out (D + 1) hlt
        have Hs := hid (show Whn.sumN F (D + 1) = Whn.sumN F D + F D from rfl)
        have HoD1 := hid (HoD.out D)
        have hbn := Hbn.out D hlt
        have hba := hid (Hba.out D hlt)
        rw [Hs.out] at hsb2
        generalize Whn.busyN g l D = bn at *
        generalize F D = fd at *
        generalize Whn.sumN F D = sn at *
        have m0 : IntKind.i64.wrap (bn - a2) = bn - a2 := by rw [IntKind.wrap_i64]; omega
        have m1 : (if bn - a2 < 0 then 0 else bn - a2) = fd := by rw [HoD1.out]; split <;> omega
        have m2 : (if 0 < bn - a2 then bn - a2 else 0) = fd := by rw [HoD1.out]; split <;> omega
        have m2b : max (bn - a2) 0 = fd := by rw [HoD1.out]
        have m3 : IntKind.i64.wrap (sn + fd) = sn + fd := by rw [IntKind.wrap_i64]; omega
        obtain ⟨ad, x, rfl, had, hx, hcx⟩ := Its.get (HI1.out.below HBy.out (Nat.le_refl _)) (k := D) (by omega)
        obtain rfl : x = bn := Option.some.inj (hx.out.symm.trans hba.out)
        clear Hba Hbn HoD Hsb H22
        go_wp2_with fail
        exact ⟨⟨D + 1, by go_num, by omega, by rw [Hs.out], KM, HBy⟩, by simp [intOf]; omega⟩
      · skip
        obtain rfl : D = N := by omega
        have b2 : ¬ (D : Int) < (bu.length : Int) := by omega
        have hs := H22.out
        generalize Whn.sumN F D = sn at *
        subst hs
        clear Hba Hbn HoD Hsb H22
        go_wp2_with fail
        refine wp_region_held_drew (S := fun X => Mem w X [(P, gc g, 23)]) (by kernel_rfl) KM.out.drew (fun hHeld => ?_)
        have K10 := hid KM.out.drew
        clear KM HBy HI1
        refine takeH 0 37 (gv g) rfl rfl (by kernel_rfl) (by kernel_rfl) (by kernel_rfl) (fun _ _ _ h => h) (by kernel_rfl) (fun X hX => by obtain ⟨q0, q1, q2⟩ := hX.gr (B := P) (g := g) (by simp); clear hX; go_simp) hHeld ?_
        simp only [Act.put, List.setIfInBounds_toArray, List.set_cons_zero, List.set_cons_succ]
        refine takeH 1 38 (.int .u8 a2) rfl rfl (by kernel_rfl) (by kernel_rfl) (by kernel_rfl) (fun _ _ _ h => h) (by kernel_rfl) (fun X hX => by clear hX; first | rfl | go_simp) hHeld ?_
        simp only [Act.put, List.setIfInBounds_toArray, List.set_cons_zero, List.set_cons_succ]
        refine takeH 2 39 (.int .i64 a2) rfl rfl (by kernel_rfl) (by kernel_rfl) (by kernel_rfl) (fun _ _ _ h => h) (by kernel_rfl) (fun X hX => by clear hX; first | rfl | go_simp) hHeld ?_
        simp only [Act.put, List.setIfInBounds_toArray, List.set_cons_zero, List.set_cons_succ]
        refine takeH 3 40 (.int .i64 a3) rfl rfl (by kernel_rfl) (by kernel_rfl) (by kernel_rfl) (fun _ _ _ h => h) (by kernel_rfl) (fun X hX => by clear hX; first | rfl | go_simp) hHeld ?_
        simp only [Act.put, List.setIfInBounds_toArray, List.set_cons_zero, List.set_cons_succ]
        refine takeH 4 41 (.slice A l.length c) rfl rfl (by kernel_rfl) (by kernel_rfl) (by kernel_rfl) (fun _ _ _ h => h) (by kernel_rfl) (fun X hX => by clear hX; first | rfl | go_simp) hHeld ?_
        simp only [Act.put, List.setIfInBounds_toArray, List.set_cons_zero, List.set_cons_succ]
        refine takeH 6 43 (.int .i64 o1) rfl rfl (by kernel_rfl) (by kernel_rfl) (by kernel_rfl) (fun _ _ _ h => h) (by kernel_rfl) (fun X hX => by clear hX; first | rfl | go_simp) hHeld ?_
        simp only [Act.put, List.setIfInBounds_toArray, List.set_cons_zero, List.set_cons_succ]
        refine wpAnyH_ready (rs := [5]) (by kernel_rfl) (by simp) ?_
        refine AllReadyH.cons rfl (fun KK hK => ?_) AllReadyH.nil
        simp only [List.getElem_toArray, List.getElem_cons_succ, List.getElem_cons_zero]
        go_simp
        refine (HO1a.out _ ((H1.out.below K10.out.2 (Nat.le_refl _)).more K10.out.2.size)).mono ?_
        rintro e Y11 ⟨rfl, bz⟩
        have K11 := hid (K10.out.next bz)
        refine hK.out _ _ K11.out (fun hHeld => ?_)
        clear hK KK
        try simp only [Act.put, List.setIfInBounds_toArray, List.set_cons_zero, List.set_cons_succ]
        clear bz K10 
        refine takeH 7 44 (.bool true) rfl rfl (by kernel_rfl) (by kernel_rfl) (by kernel_rfl) (fun _ _ _ h => h) (by kernel_rfl) (fun X hX => by clear hX; first | rfl | go_simp) hHeld ?_
        simp only [Act.put, List.setIfInBounds_toArray, List.set_cons_zero, List.set_cons_succ]
        refine takeH 8 45 (.bool true) rfl rfl (by kernel_rfl) (by kernel_rfl) (by kernel_rfl) (fun _ _ _ h => h) (by kernel_rfl) (fun X hX => by clear hX; first | rfl | go_simp) hHeld ?_
        simp only [Act.put, List.setIfInBounds_toArray, List.set_cons_zero, List.set_cons_succ]
        refine takeH 9 46 (gv g) rfl rfl (by kernel_rfl) (by kernel_rfl) (by kernel_rfl) (fun _ _ _ h => h) (by kernel_rfl) (fun X hX => by obtain ⟨q0, q1, q2⟩ := hX.gr (B := P) (g := g) (by simp); clear hX; go_simp) hHeld ?_
        simp only [Act.put, List.setIfInBounds_toArray, List.set_cons_zero, List.set_cons_succ]
        refine takeH 10 47 (.int .u8 a2) rfl rfl (by kernel_rfl) (by kernel_rfl) (by kernel_rfl) (fun _ _ _ h => h) (by kernel_rfl) (fun X hX => by clear hX; first | rfl | go_simp) hHeld ?_
        simp only [Act.put, List.setIfInBounds_toArray, List.set_cons_zero, List.set_cons_succ]
        refine takeH 11 48 (.int .i64 a2) rfl rfl (by kernel_rfl) (by kernel_rfl) (by kernel_rfl) (fun _ _ _ h => h) (by kernel_rfl) (fun X hX => by clear hX; first | rfl | go_simp) hHeld ?_
        simp only [Act.put, List.setIfInBounds_toArray, List.set_cons_zero, List.set_cons_succ]
        refine takeH 12 49 (.int .i64 a3) rfl rfl (by kernel_rfl) (by kernel_rfl) (by kernel_rfl) (fun _ _ _ h => h) (by kernel_rfl) (fun X hX => by clear hX; first | rfl | go_simp) hHeld ?_
        simp only [Act.put, List.setIfInBounds_toArray, List.set_cons_zero, List.set_cons_succ]
        refine takeH 13 50 (.slice A l.length c) rfl rfl (by kernel_rfl) (by kernel_rfl) (by kernel_rfl) (fun _ _ _ h => h) (by kernel_rfl) (fun X hX => by clear hX; first | rfl | go_simp) hHeld ?_
        simp only [Act.put, List.setIfInBounds_toArray, List.set_cons_zero, List.set_cons_succ]
        refine takeH 15 52 (gv g) rfl rfl (by kernel_rfl) (by kernel_rfl) (by kernel_rfl) (fun _ _ _ h => h) (by kernel_rfl) (fun X hX => by obtain ⟨q0, q1, q2⟩ := hX.gr (B := P) (g := g) (by simp); clear hX; go_simp) hHeld ?_
        simp only [Act.put, List.setIfInBounds_toArray, List.set_cons_zero, List.set_cons_succ]
        refine takeH 16 53 (.slice A l.length c) rfl rfl (by kernel_rfl) (by kernel_rfl) (by kernel_rfl) (fun _ _ _ h => h) (by kernel_rfl) (fun X hX => by clear hX; first | rfl | go_simp) hHeld ?_
        simp only [Act.put, List.setIfInBounds_toArray, List.set_cons_zero, List.set_cons_succ]
        refine takeH 18 55 (.int .u8 a2) rfl rfl (by kernel_rfl) (by kernel_rfl) (by kernel_rfl) (fun _ _ _ h => h) (by kernel_rfl) (fun X hX => by clear hX; first | rfl | go_simp) hHeld ?_
        simp only [Act.put, List.setIfInBounds_toArray, List.set_cons_zero, List.set_cons_succ]
        refine takeH 19 56 (.int .i64 a2) rfl rfl (by kernel_rfl) (by kernel_rfl) (by kernel_rfl) (fun _ _ _ h => h) (by kernel_rfl) (fun X hX => by clear hX; first | rfl | go_simp) hHeld ?_
        simp only [Act.put, List.setIfInBounds_toArray, List.set_cons_zero, List.set_cons_succ]
        refine wpAnyH_ready (rs := [14]) (by kernel_rfl) (by simp) ?_
        refine AllReadyH.cons rfl (fun KK hK => ?_) AllReadyH.nil
        simp only [List.getElem_toArray, List.getElem_cons_succ, List.getElem_cons_zero]
        go_simp
        refine (HO2a.out _ ((H1.out.below K11.out.2 (Nat.le_refl _)).more K11.out.2.size)).mono ?_
        rintro e Y12 ⟨rfl, bz⟩
        have K12 := hid (K11.out.next bz)
        refine hK.out _ _ K12.out (fun hHeld => ?_)
        clear hK KK
        try simp only [Act.put, List.setIfInBounds_toArray, List.set_cons_zero, List.set_cons_succ]
        clear bz K11 
        refine wpAnyH_ready (rs := [17]) (by kernel_rfl) (by simp) ?_
        refine AllReadyH.cons rfl (fun KK hK => ?_) AllReadyH.nil
        simp only [List.getElem_toArray, List.getElem_cons_succ, List.getElem_cons_zero]
        go_simp
        refine (HDya.out _ ((H1.out.below K12.out.2 (Nat.le_refl _)).more K12.out.2.size)).mono ?_
        rintro e Y13 ⟨rfl, bz⟩
        have K13 := hid (K12.out.next bz)
        refine hK.out _ _ K13.out (fun hHeld => ?_)
        clear hK KK
        try simp only [Act.put, List.setIfInBounds_toArray, List.set_cons_zero, List.set_cons_succ]
        clear bz K12 
        refine takeH 20 57 (.int .i64 (dc - a2)) rfl rfl (by kernel_rfl) (by kernel_rfl) (by kernel_rfl) (fun _ _ _ h => h) (by kernel_rfl) (fun X hX => by clear hX; first | rfl | go_simp) hHeld ?_
        simp only [Act.put, List.setIfInBounds_toArray, List.set_cons_zero, List.set_cons_succ]
        refine takeH 21 58 (.int .i64 o2) rfl rfl (by kernel_rfl) (by kernel_rfl) (by kernel_rfl) (fun _ _ _ h => h) (by kernel_rfl) (fun X hX => by clear hX; first | rfl | go_simp) hHeld ?_
        simp only [Act.put, List.setIfInBounds_toArray, List.set_cons_zero, List.set_cons_succ]
        refine takeH 22 59 (.bool true) rfl rfl (by kernel_rfl) (by kernel_rfl) (by kernel_rfl) (fun _ _ _ h => h) (by kernel_rfl) (fun X hX => by clear hX; first | rfl | go_simp) hHeld ?_
        simp only [Act.put, List.setIfInBounds_toArray, List.set_cons_zero, List.set_cons_succ]
        refine takeH 23 60 (.bool true) rfl rfl (by kernel_rfl) (by kernel_rfl) (by kernel_rfl) (fun _ _ _ h => h) (by kernel_rfl) (fun X hX => by clear hX; first | rfl | go_simp) hHeld ?_
        simp only [Act.put, List.setIfInBounds_toArray, List.set_cons_zero, List.set_cons_succ]
        refine takeH 24 61 (.bool true) rfl rfl (by kernel_rfl) (by kernel_rfl) (by kernel_rfl) (fun _ _ _ h => h) (by kernel_rfl) (fun X hX => by clear hX; first | rfl | go_simp) hHeld ?_
        simp only [Act.put, List.setIfInBounds_toArray, List.set_cons_zero, List.set_cons_succ]
        refine takeH 25 62 (gv g) rfl rfl (by kernel_rfl) (by kernel_rfl) (by kernel_rfl) (fun _ _ _ h => h) (by kernel_rfl) (fun X hX => by obtain ⟨q0, q1, q2⟩ := hX.gr (B := P) (g := g) (by simp); clear hX; go_simp) hHeld ?_
        simp only [Act.put, List.setIfInBounds_toArray, List.set_cons_zero, List.set_cons_succ]
        refine takeH 26 63 (.int .i64 a1) rfl rfl (by kernel_rfl) (by kernel_rfl) (by kernel_rfl) (fun _ _ _ h => h) (by kernel_rfl) (fun X hX => by clear hX; first | rfl | go_simp) hHeld ?_
        simp only [Act.put, List.setIfInBounds_toArray, List.set_cons_zero, List.set_cons_succ]
        refine takeH 27 64 (.int .u8 a2) rfl rfl (by kernel_rfl) (by kernel_rfl) (by kernel_rfl) (fun _ _ _ h => h) (by kernel_rfl) (fun X hX => by clear hX; first | rfl | go_simp) hHeld ?_
        simp only [Act.put, List.setIfInBounds_toArray, List.set_cons_zero, List.set_cons_succ]
        refine takeH 28 65 (.int .i64 a2) rfl rfl (by kernel_rfl) (by kernel_rfl) (by kernel_rfl) (fun _ _ _ h => h) (by kernel_rfl) (fun X hX => by clear hX; first | rfl | go_simp) hHeld ?_
        simp only [Act.put, List.setIfInBounds_toArray, List.set_cons_zero, List.set_cons_succ]
        refine takeH 29 66 (.int .i64 (a2 + 1)) rfl rfl (by kernel_rfl) (by kernel_rfl) (by kernel_rfl) (fun _ _ _ h => h) (by kernel_rfl) (fun X hX => by clear hX; first | rfl | go_simp) hHeld ?_
        simp only [Act.put, List.setIfInBounds_toArray, List.set_cons_zero, List.set_cons_succ]
        refine takeH 30 67 (.int .i64 a3) rfl rfl (by kernel_rfl) (by kernel_rfl) (by kernel_rfl) (fun _ _ _ h => h) (by kernel_rfl) (fun X hX => by clear hX; first | rfl | go_simp) hHeld ?_
        simp only [Act.put, List.setIfInBounds_toArray, List.set_cons_zero, List.set_cons_succ]
        refine takeH 31 68 (.slice A l.length c) rfl rfl (by kernel_rfl) (by kernel_rfl) (by kernel_rfl) (fun _ _ _ h => h) (by kernel_rfl) (fun X hX => by clear hX; first | rfl | go_simp) hHeld ?_
        simp only [Act.put, List.setIfInBounds_toArray, List.set_cons_zero, List.set_cons_succ]
        refine takeH 33 70 (gv g) rfl rfl (by kernel_rfl) (by kernel_rfl) (by kernel_rfl) (fun _ _ _ h => h) (by kernel_rfl) (fun X hX => by obtain ⟨q0, q1, q2⟩ := hX.gr (B := P) (g := g) (by simp); clear hX; go_simp) hHeld ?_
        simp only [Act.put, List.setIfInBounds_toArray, List.set_cons_zero, List.set_cons_succ]
        refine takeH 34 71 (.int .i64 a1) rfl rfl (by kernel_rfl) (by kernel_rfl) (by kernel_rfl) (fun _ _ _ h => h) (by kernel_rfl) (fun X hX => by clear hX; first | rfl | go_simp) hHeld ?_
        simp only [Act.put, List.setIfInBounds_toArray, List.set_cons_zero, List.set_cons_succ]
        refine takeH 35 72 (.int .u8 a2) rfl rfl (by kernel_rfl) (by kernel_rfl) (by kernel_rfl) (fun _ _ _ h => h) (by kernel_rfl) (fun X hX => by clear hX; first | rfl | go_simp) hHeld ?_
        simp only [Act.put, List.setIfInBounds_toArray, List.set_cons_zero, List.set_cons_succ]
        refine takeH 36 73 (.int .i64 a2) rfl rfl (by kernel_rfl) (by kernel_rfl) (by kernel_rfl) (fun _ _ _ h => h) (by kernel_rfl) (fun X hX => by clear hX; first | rfl | go_simp) hHeld ?_
        simp only [Act.put, List.setIfInBounds_toArray, List.set_cons_zero, List.set_cons_succ]
        refine takeH 37 74 (.int .i64 a3) rfl rfl (by kernel_rfl) (by kernel_rfl) (by kernel_rfl) (fun _ _ _ h => h) (by kernel_rfl) (fun X hX => by clear hX; first | rfl | go_simp) hHeld ?_
        simp only [Act.put, List.setIfInBounds_toArray, List.set_cons_zero, List.set_cons_succ]
        refine takeH 38 75 (.slice A l.length c) rfl rfl (by kernel_rfl) (by kernel_rfl) (by kernel_rfl) (fun _ _ _ h => h) (by kernel_rfl) (fun X hX => by clear hX; first | rfl | go_simp) hHeld ?_
        simp only [Act.put, List.setIfInBounds_toArray, List.set_cons_zero, List.set_cons_succ]
        refine wpAnyH_ready (rs := [32]) (by kernel_rfl) (by simp) ?_
        refine AllReadyH.cons rfl (fun KK hK => ?_) AllReadyH.nil
        simp only [List.getElem_toArray, List.getElem_cons_succ, List.getElem_cons_zero]
        go_simp
        refine (HO3a.out _ ((H1.out.below K13.out.2 (Nat.le_refl _)).more K13.out.2.size)).mono ?_
        rintro e Y14 ⟨rfl, bz⟩
        have K14 := hid (K13.out.next bz)
        refine hK.out _ _ K14.out (fun hHeld => ?_)
        clear hK KK
        try simp only [Act.put, List.setIfInBounds_toArray, List.set_cons_zero, List.set_cons_succ]
        clear bz K13 
        refine wpAnyH_ready (rs := [39]) (by kernel_rfl) (by simp) ?_
        refine AllReadyH.cons rfl (fun KK hK => ?_) AllReadyH.nil
        simp only [List.getElem_toArray, List.getElem_cons_succ, List.getElem_cons_zero]
        go_simp
        refine (HO4a.out _ ((H1.out.below K14.out.2 (Nat.le_refl _)).more K14.out.2.size)).mono ?_
        rintro e Y15 ⟨rfl, bz⟩
        have K15 := hid (K14.out.next bz)
        refine hK.out _ _ K15.out (fun hHeld => ?_)
        clear hK KK
        try simp only [Act.put, List.setIfInBounds_toArray, List.set_cons_zero, List.set_cons_succ]
        clear bz K14 
        refine takeH 40 77 (.bool true) rfl rfl (by kernel_rfl) (by kernel_rfl) (by kernel_rfl) (fun _ _ _ h => h) (by kernel_rfl) (fun X hX => by have := hle; clear hX; go_simp) hHeld ?_
        simp only [Act.put, List.setIfInBounds_toArray, List.set_cons_zero, List.set_cons_succ]
        refine takeH 41 78 (.bool true) rfl rfl (by kernel_rfl) (by kernel_rfl) (by kernel_rfl) (fun _ _ _ h => h) (by kernel_rfl) (fun X hX => by clear hX; first | rfl | go_simp) hHeld ?_
        simp only [Act.put, List.setIfInBounds_toArray, List.set_cons_zero, List.set_cons_succ]
        refine takeH 42 79 (.bool true) rfl rfl (by kernel_rfl) (by kernel_rfl) (by kernel_rfl) (fun _ _ _ h => h) (by kernel_rfl) (fun X hX => by clear hX; first | rfl | go_simp) hHeld ?_
        simp only [Act.put, List.setIfInBounds_toArray, List.set_cons_zero, List.set_cons_succ]
        refine wpAnyH_ready (rs := [43]) (by kernel_rfl) (by simp) ?_
        refine AllReadyH.cons rfl (fun KK hK => ?_) AllReadyH.nil
        simp only [List.getElem_toArray, List.getElem_cons_succ, List.getElem_cons_zero]
        go_simp
        refine (HH.out _).mono ?_
        rintro e Y16 ⟨rfl, bz⟩
        have K16 := hid (K15.out.next bz)
        refine hK.out _ _ K16.out (fun hHeld => ?_)
        clear hK KK
        try simp only [Act.put, List.setIfInBounds_toArray, List.set_cons_zero, List.set_cons_succ]
        clear bz K15 
        refine takeH 44 81 (.bool true) rfl rfl (by kernel_rfl) (by kernel_rfl) (by kernel_rfl) (fun _ _ _ h => h) (by kernel_rfl) (fun X hX => by clear hX; first | rfl | go_simp) hHeld ?_
        simp only [Act.put, List.setIfInBounds_toArray, List.set_cons_zero, List.set_cons_succ]
        refine takeH 45 10 (.bool true) rfl rfl (by kernel_rfl) (by kernel_rfl) (by kernel_rfl) (fun _ _ _ h => h) (by kernel_rfl) (fun X hX => by clear hX; first | rfl | go_simp) hHeld ?_
        simp only [Act.put, List.setIfInBounds_toArray, List.set_cons_zero, List.set_cons_succ]
        refine wpAnyH_done (by kernel_rfl) ?_ _
        clear hHeld
        go_wp2_with fail
        go_ret
        exact ⟨rfl, K16.out.2⟩

/-! ### THE ROW's STEP: WRITTEN OUT: LEAVE IT -/
set_option maxRecDepth 100000 in
theorem lifted (os : Os) (started : os.Started) (H : Type) (enc : TypeId × Value → H) :
    ReturnsInHanded {} Try.checked os 8 .any (Rows.manyLoadsSpec.pre6 enc Try.prog Try.f8 Rows.manyLoadsRow.domain false) (Rows.manyLoadsSpec.post enc Try.prog Try.f8 false true false false) := by
  refine returnsInHanded_of_change (C := Try.checked) own started (by kernel_rfl) Try.func8
    (ChangeSpec.witness6 (enc := enc) (C := Try.checked) false ⟨#[], #[.agg #[.int .i64 0, .int .i64 0, .int .i64 0], .int .i64 0, .int .u8 0, .int .i64 0, .slice none 0 0], []⟩ 8 (by kernel_rfl) (by kernel_rfl) (by kernel_rfl) (by kernel_rfl)) ?_
  intro W base args ds gs before hval0 hW hcnd _
  have hval : ∀ (j : Nat) t v, Try.f8.params[j]? = some t → args[j]? = some v → Value.okWide Try.prog W .any base t v := hval0
  have hW' := hW
  obtain ⟨p, q, hA0, hV, rfl, hfz, hnd⟩ := hW
  have hA : DataW.TrodAll enc Try.prog W 0 (fun _ => true) true Try.f8.params.toList args.toList ds p := hA0
  rw [Try.params8] at hA hval
  obtain ⟨v0, vs0, d0, ds0, p0, q0, hargs, rfl, rfl, h0, r0⟩ := trodAll_cons hA
  obtain ⟨v1, vs1, d1, ds1, p1, q1, rfl, rfl, rfl, h1, r1⟩ := trodAll_cons r0
  obtain ⟨v2, vs2, d2, ds2, p2, q2, rfl, rfl, rfl, h2, r2⟩ := trodAll_cons r1
  obtain ⟨v3, vs3, d3, ds3, p3, q3, rfl, rfl, rfl, h3, r3⟩ := trodAll_cons r2
  obtain ⟨v4, vs4, d4, ds4, p4, q4, rfl, rfl, rfl, h4, r4⟩ := trodAll_cons r3
  obtain ⟨rfl, rfl, rfl⟩ := trodAll_nil r4
  obtain rfl : args = #[v0, v1, v2, v3, v4] := by cases args; simp_all
  obtain ⟨rfl, rfl⟩ := trodVars_none hV
  have k0 := h0
  have lt0 : ∀ x ∈ p0, x.block < W.heap.size := by obtain ⟨m, hm⟩ := k0; exact DataW.trod_lt m _ _ _ hm
  obtain ⟨a0, rfl, w0⟩ := open_gr (hval 0 23 v0 rfl rfl) h0
  obtain ⟨a1, rfl, rfl, rfl, w1⟩ := open_int Try.underlying24 (hval 1 24 v1 rfl rfl) h1
  obtain ⟨a2, rfl, rfl, rfl, w2⟩ := open_int Try.underlying5 (hval 2 5 v2 rfl rfl) h2
  obtain ⟨a3, rfl, rfl, rfl, w3⟩ := open_int Try.underlying3 (hval 3 3 v3 rfl rfl) h3
  have k4 := h4
  have lt4 : ∀ x ∈ p4, x.block < W.heap.size := by obtain ⟨m, hm⟩ := k4; exact DataW.trod_lt m _ _ _ hm
  obtain ⟨a4, rfl, w4⟩ := open_wsA (hval 4 26 v4 rfl rfl) h4
  clear hA0 hval0
  refine (walk a0 a1 a2 a3 a4 W w0 w1 w2 w3 w4).mono fun e W' ⟨he, bel⟩ => ?_
  subst he
  exact ⟨_, rfl, _, _, _, [], _, [], hW', trodAll_mk1 (shut_bool Try.underlying4 _), (trodAll_cons_mk (Below.trod laidOut (by kernel_rfl) (of_decide_eq_true (by kernel_rfl)) k0 bel lt0) (trodAll_cons_mk (shut_int Try.underlying24 w1) (trodAll_cons_mk (shut_int Try.underlying5 w2) (trodAll_cons_mk (shut_int Try.underlying3 w3) (trodAll_cons_mk (Below.trod laidOut (by kernel_rfl) (of_decide_eq_true (by kernel_rfl)) k4 bel lt4) trodAll_mk0))))), rfl, bel.frame _, fun h => by cases h⟩

theorem over : Rows.manyLoadsRow.holds Try.pinned (OpenSpec.ofChange Rows.manyLoadsSpec) :=
  OpenClaim.holds_of_wide 8 Try.f8 rfl rfl rfl rfl rfl rfl rfl ⟨rfl, rfl, rfl, rfl, rfl⟩ rfl rfl rfl rfl rfl (by kernel_rfl) Try.func8 (by kernel_rfl)
    (of_decide_eq_true (by kernel_rfl)) (by unfold Func.isWrapper; first | (rw [if_pos (by decide +kernel)]; kernel_rfl) | (rw [if_neg (by decide +kernel)]; exact ⟨rfl, rfl⟩))
    (fun os started H enc _ => lifted os started H enc)

/-- ████ THE STATEMENT ████ -/
theorem proved : Rows.ManyLoadsSaid := over
#print axioms proved
end Go.Proofs.Ytjjmajhldpoobaa.manyLoads
