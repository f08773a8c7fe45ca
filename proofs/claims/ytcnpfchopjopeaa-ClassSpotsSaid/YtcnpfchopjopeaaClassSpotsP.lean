/- Proves 'ClassSpotsSaid': for every input the Go function ClassSpots returns true, and each argument reads afterwards as it read before. Conditions: none beyond the row's own. -/
import Derived.Test.YtcnpfchopjopeaaRows
import Derived.WalkKit
import Derived.ProofKit
import Derived.OpenShut
import Derived.ShutString
import Derived.SliceStrings
import Derived.ChangeOld
import Derived.Below
import Derived.Test.YtcnpfchopjopeaaCltE
namespace Go.Proofs.Ytcnpfchopjopeaa.classSpots
open Go.ChangeShapes Go.WideShapes Go.ChangeAt Go.RowKit
open Go.ChangeMaps (open_string shut_string)
set_option linter.unusedVariables false

theorem own : ownKnob Try.prog.godebug = none := by kernel_rfl
theorem laidOut : laidOutB Try.prog = true := by kernel_rfl

/-- WHAT THE WALK IS TOLD OF A SLICE OF INTEGERS THAT CAME IN: it is nil; or it leads to a row of 'cap' cells, the numbers 'zs' (the first 'len' are its elements, the rest its spare room), each fitting its kind. -/
def IsRow (k : IntKind) (w : World) (a : Option Addr) (len cap : Nat) (zs : List Int) : Prop :=
  (a = none ∧ len = 0 ∧ cap = 0 ∧ zs = []) ∨
  ∃ x, a = some x ∧ len ≤ cap ∧ cap ≤ maxLen ∧ zs.length = cap ∧ (∀ i, i < zs.length → w.cell? (x.add i) = some (.int k (zs.getD i 0))) ∧ ∀ n ∈ zs, (Lit.int k n).wf = true

/-! ### STEP 1: THE WALK: the Go text returns true, AND WRITES NOTHING THAT WAS THERE: 'Below w.heap.size w w'' (Derived/Below.lean: '.refl', '.alloc', '.drew', '.setCell' at a new block, '.trans'). Open each 'IsRow' by 'rcases' AHEAD of 'go_enter'; part every test ahead of the walk. -/
set_option maxRecDepth 20000 in
set_option maxHeartbeats 16000000 in
theorem walk (a0 : ClA) (a1 : Se) (w : World) (w0 : ClIn w a0) (w1 : Sok a1) :
    Calls Try.prog 5 #[cvA a0, sv a1] w fun e w' => e = .returned (.bool true) ∧ Below w.heap.size w w' := by
  obtain ⟨x, r⟩ := a0
  obtain ⟨hok, hw, hc⟩ := w0
  obtain ⟨st, sp⟩ := a1
  simp only at hok hw hc
  clear w1
  show Calls Try.prog 5 #[cv x r, sv ⟨st, sp⟩] w (Did (.bool true) w)
  have HF := hid (fun X h => l_few x r X h)
  have HH := hid (fun X => hd_cls X)
  have H := hid hw
  have hN : x.t.length ≤ maxLen := Nat.le_trans hc.2.1.1 hc.2.1.2
  have hM : x.l.length ≤ maxLen := Nat.le_trans hc.2.2.1 hc.2.2.2
  have HSp := hid (fun X h => p_Spot x r ⟨st, sp⟩ hN hM X h)
  have HSr := hid (fun X h => r_Spot x r ⟨st, sp⟩ X h)
  have HCp := hid (fun X h => p_Cost x r ⟨st, sp⟩ hN hM X h)
  have HCr := hid (fun X h => r_Cost x r ⟨st, sp⟩ X h)
  have HEp := hid (fun X => p_Seat x r ⟨st, sp⟩ hN hM X)
  have HEr := hid (fun X => r_Seat x r ⟨st, sp⟩ X)
  have HWp := hid (fun X => p_Whole x r ⟨st, sp⟩ hN hM X)
  have HWr := hid (fun X => r_Whole x r ⟨st, sp⟩ X)
  clear hok hw hc hN hM
  generalize spW x ⟨st, sp⟩ = sw at *
  generalize spR x ⟨st, sp⟩ = sr at *
  generalize seatB x ⟨st, sp⟩ = qs at *
  generalize wholeB x ⟨st, sp⟩ = qw at *
  generalize costT x ⟨st, sp⟩ = ct at *
  generalize costP x ⟨st, sp⟩ = cp at *
  generalize fewB x = f1 at *
  obtain ⟨P, W, hP, hW, K0, z0⟩ := (Mem.nil w).one (ccl x r) 30
  obtain ⟨S, W1, hS, hW1, K1, z1⟩ := K0.out.one (sc ⟨st, sp⟩) 41
  clear z0 z1 K0
  obtain ⟨e0, e1, e2, e3, e4, e5, e6⟩ := K1.out.cl (B := P) (x := x) (r := r) (t := 30) (by simp)
  obtain ⟨d0, d1⟩ := K1.out.se (B := S) (s := ⟨st, sp⟩) (t := 41) (by simp)
  simp only at d0 d1
  go_enter Try.func5, Try.ntmps5
  go_wp2_with fail
  refine (HF.out _ (H.out.next K1.out.2)).mono ?_
  rintro e Y1 ⟨rfl, bz⟩
  have K2 := hid (K1.out.next bz)
  clear e0 e1 e2 e3 e4 e5 e6 d0 d1 bz K1
  obtain ⟨e0, e1, e2, e3, e4, e5, e6⟩ := K2.out.cl (B := P) (x := x) (r := r) (t := 30) (by simp)
  obtain ⟨d0, d1⟩ := K2.out.se (B := S) (s := ⟨st, sp⟩) (t := 41) (by simp)
  simp only at d0 d1
  cases f1 with
  | false =>
    go_wp2_with fail
    refine (HH.out _).mono ?_
    rintro e Y1 ⟨rfl, bz⟩
    go_wp2_with fail
    go_ret
    exact Did.mk rfl (K2.out.next bz).2
  | true =>
    go_wp2_with fail
    refine (HSp.out _ (H.out.next K2.out.2)).mono ?_
    rintro e Z2 ⟨rfl, bz⟩
    have K3 := hid (K2.out.next bz)
    clear e0 e1 e2 e3 e4 e5 e6 d0 d1 bz K2
    obtain ⟨A, U4, hA, hU4, K4, zz⟩ := K3.out.one [.int .u32 (sw.w : Int), .int .u8 (sw.d : Int), .int .i64 sw.s, .int .i64 sw.l, .int .i64 sr] 48
    clear zz K3
    obtain ⟨e0, e1, e2, e3, e4, e5, e6⟩ := K4.out.cl (B := P) (x := x) (r := r) (t := 30) (by simp)
    obtain ⟨d0, d1⟩ := K4.out.se (B := S) (s := ⟨st, sp⟩) (t := 41) (by simp)
    simp only at d0 d1
    go_wp2_with fail
    refine (HSr.out _ (H.out.next K4.out.2)).mono ?_
    rintro e Z4 ⟨rfl, bz⟩
    have K5 := hid (K4.out.next bz)
    clear e0 e1 e2 e3 e4 e5 e6 d0 d1 bz K4
    obtain ⟨B, U6, hB, hU6, K6, zz⟩ := K5.out.one [.int .u32 (sw.w : Int), .int .u8 (sw.d : Int), .int .i64 sw.s, .int .i64 sw.l, .int .i64 sr] 48
    clear zz K5
    obtain ⟨e0, e1, e2, e3, e4, e5, e6⟩ := K6.out.cl (B := P) (x := x) (r := r) (t := 30) (by simp)
    obtain ⟨d0, d1⟩ := K6.out.se (B := S) (s := ⟨st, sp⟩) (t := 41) (by simp)
    simp only at d0 d1
    go_wp2_with fail
    refine (HCp.out _ (H.out.next K6.out.2)).mono ?_
    rintro e Z6 ⟨rfl, bz⟩
    have K7 := hid (K6.out.next bz)
    clear e0 e1 e2 e3 e4 e5 e6 d0 d1 bz K6
    obtain ⟨e0, e1, e2, e3, e4, e5, e6⟩ := K7.out.cl (B := P) (x := x) (r := r) (t := 30) (by simp)
    obtain ⟨d0, d1⟩ := K7.out.se (B := S) (s := ⟨st, sp⟩) (t := 41) (by simp)
    simp only at d0 d1
    go_wp2_with fail
    refine (HCr.out _ (H.out.next K7.out.2)).mono ?_
    rintro e Z7 ⟨rfl, bz⟩
    have K8 := hid (K7.out.next bz)
    clear e0 e1 e2 e3 e4 e5 e6 d0 d1 bz K7
    obtain ⟨e0, e1, e2, e3, e4, e5, e6⟩ := K8.out.cl (B := P) (x := x) (r := r) (t := 30) (by simp)
    obtain ⟨d0, d1⟩ := K8.out.se (B := S) (s := ⟨st, sp⟩) (t := 41) (by simp)
    simp only at d0 d1
    go_wp2_with fail
    clear e0 e1 e2 e3 e4 e5 e6 d0 d1
    have KR := hid (show Mem w _ [(P, ccl x r, 30), (S, sc ⟨st, sp⟩, 41), (A, [.int .u32 (sw.w : Int), .int .u8 (sw.d : Int), .int .i64 sw.s, .int .i64 sw.l, .int .i64 sr], 48), (B, [.int .u32 (sw.w : Int), .int .u8 (sw.d : Int), .int .i64 sw.s, .int .i64 sw.l, .int .i64 sr], 48)] from K8.out.drew.sub (by intro p hp; simp only [List.mem_cons, List.not_mem_nil, or_false] at hp ⊢; rcases hp with rfl | rfl | rfl | rfl <;> simp))
    clear K8
    refine wp_region_held_drew (S := fun X => Mem w X [(P, ccl x r, 30), (S, sc ⟨st, sp⟩, 41), (A, [.int .u32 (sw.w : Int), .int .u8 (sw.d : Int), .int .i64 sw.s, .int .i64 sw.l, .int .i64 sr], 48), (B, [.int .u32 (sw.w : Int), .int .u8 (sw.d : Int), .int .i64 sw.s, .int .i64 sw.l, .int .i64 sr], 48)]) (by kernel_rfl) KR.out (fun hHeld => ?_)
    refine takeH 0 41 (cv x r) rfl rfl (by kernel_rfl) (by kernel_rfl) (by kernel_rfl) (fun _ _ _ h => h) (by kernel_rfl) (fun X hX => by obtain ⟨q0, q1, q2, q3, q4, q5, q6⟩ := hX.cl (B := P) (x := x) (r := r) (t := 30) (by simp); clear hX; go_simp) hHeld ?_
    simp only [Act.put, List.setIfInBounds_toArray, List.set_cons_zero, List.set_cons_succ]
    refine takeH 1 42 (sv ⟨st, sp⟩) rfl rfl (by kernel_rfl) (by kernel_rfl) (by kernel_rfl) (fun _ _ _ h => h) (by kernel_rfl) (fun X hX => by obtain ⟨q0, q1⟩ := hX.se (B := S) (s := ⟨st, sp⟩) (t := 41) (by simp); simp only at q0 q1; clear hX; go_simp) hHeld ?_
    simp only [Act.put, List.setIfInBounds_toArray, List.set_cons_zero, List.set_cons_succ]
    refine takeH 3 44 (cv x r) rfl rfl (by kernel_rfl) (by kernel_rfl) (by kernel_rfl) (fun _ _ _ h => h) (by kernel_rfl) (fun X hX => by obtain ⟨q0, q1, q2, q3, q4, q5, q6⟩ := hX.cl (B := P) (x := x) (r := r) (t := 30) (by simp); clear hX; go_simp) hHeld ?_
    simp only [Act.put, List.setIfInBounds_toArray, List.set_cons_zero, List.set_cons_succ]
    refine takeH 4 45 (sv ⟨st, sp⟩) rfl rfl (by kernel_rfl) (by kernel_rfl) (by kernel_rfl) (fun _ _ _ h => h) (by kernel_rfl) (fun X hX => by obtain ⟨q0, q1⟩ := hX.se (B := S) (s := ⟨st, sp⟩) (t := 41) (by simp); simp only at q0 q1; clear hX; go_simp) hHeld ?_
    simp only [Act.put, List.setIfInBounds_toArray, List.set_cons_zero, List.set_cons_succ]
    refine wpAnyH_ready (rs := [2]) (by kernel_rfl) (by simp) ?_
    refine AllReadyH.cons rfl (fun KK hK => ?_) AllReadyH.nil
    simp only [List.getElem_toArray, List.getElem_cons_succ, List.getElem_cons_zero]
    go_simp
    refine (HEp.out _).mono ?_
    rintro e R1 ⟨rfl, bz⟩
    have KS := hid (KR.out.next bz)
    refine hK.out _ _ KS.out (fun hHeld => ?_)
    clear hK KK
    try simp only [Act.put, List.setIfInBounds_toArray, List.set_cons_zero, List.set_cons_succ]
    clear bz KR
    refine wpAnyH_ready (rs := [5]) (by kernel_rfl) (by simp) ?_
    refine AllReadyH.cons rfl (fun KK hK => ?_) AllReadyH.nil
    simp only [List.getElem_toArray, List.getElem_cons_succ, List.getElem_cons_zero]
    go_simp
    refine (HEr.out _).mono ?_
    rintro e R2 ⟨rfl, bz⟩
    have KT := hid (KS.out.next bz)
    refine hK.out _ _ KT.out (fun hHeld => ?_)
    clear hK KK
    try simp only [Act.put, List.setIfInBounds_toArray, List.set_cons_zero, List.set_cons_succ]
    clear bz KS
    refine takeH 6 47 (.bool true) rfl rfl (by kernel_rfl) (by kernel_rfl) (by kernel_rfl) (fun _ _ _ h => h) (by kernel_rfl) (fun X hX => by clear hX; cases qs <;> go_simp) hHeld ?_
    simp only [Act.put, List.setIfInBounds_toArray, List.set_cons_zero, List.set_cons_succ]
    refine takeH 7 48 (.bool true) rfl rfl (by kernel_rfl) (by kernel_rfl) (by kernel_rfl) (fun _ _ _ h => h) (by kernel_rfl) (fun X hX => by clear hX; first | rfl | go_simp) hHeld ?_
    simp only [Act.put, List.setIfInBounds_toArray, List.set_cons_zero, List.set_cons_succ]
    refine takeH 8 49 (cv x r) rfl rfl (by kernel_rfl) (by kernel_rfl) (by kernel_rfl) (fun _ _ _ h => h) (by kernel_rfl) (fun X hX => by obtain ⟨q0, q1, q2, q3, q4, q5, q6⟩ := hX.cl (B := P) (x := x) (r := r) (t := 30) (by simp); clear hX; go_simp) hHeld ?_
    simp only [Act.put, List.setIfInBounds_toArray, List.set_cons_zero, List.set_cons_succ]
    refine takeH 9 50 (sv ⟨st, sp⟩) rfl rfl (by kernel_rfl) (by kernel_rfl) (by kernel_rfl) (fun _ _ _ h => h) (by kernel_rfl) (fun X hX => by obtain ⟨q0, q1⟩ := hX.se (B := S) (s := ⟨st, sp⟩) (t := 41) (by simp); simp only at q0 q1; clear hX; go_simp) hHeld ?_
    simp only [Act.put, List.setIfInBounds_toArray, List.set_cons_zero, List.set_cons_succ]
    refine takeH 11 52 (cv x r) rfl rfl (by kernel_rfl) (by kernel_rfl) (by kernel_rfl) (fun _ _ _ h => h) (by kernel_rfl) (fun X hX => by obtain ⟨q0, q1, q2, q3, q4, q5, q6⟩ := hX.cl (B := P) (x := x) (r := r) (t := 30) (by simp); clear hX; go_simp) hHeld ?_
    simp only [Act.put, List.setIfInBounds_toArray, List.set_cons_zero, List.set_cons_succ]
    refine takeH 12 53 (sv ⟨st, sp⟩) rfl rfl (by kernel_rfl) (by kernel_rfl) (by kernel_rfl) (fun _ _ _ h => h) (by kernel_rfl) (fun X hX => by obtain ⟨q0, q1⟩ := hX.se (B := S) (s := ⟨st, sp⟩) (t := 41) (by simp); simp only at q0 q1; clear hX; go_simp) hHeld ?_
    simp only [Act.put, List.setIfInBounds_toArray, List.set_cons_zero, List.set_cons_succ]
    refine wpAnyH_ready (rs := [10]) (by kernel_rfl) (by simp) ?_
    refine AllReadyH.cons rfl (fun KK hK => ?_) AllReadyH.nil
    simp only [List.getElem_toArray, List.getElem_cons_succ, List.getElem_cons_zero]
    go_simp
    refine (HWp.out _).mono ?_
    rintro e R3 ⟨rfl, bz⟩
    have KU := hid (KT.out.next bz)
    refine hK.out _ _ KU.out (fun hHeld => ?_)
    clear hK KK
    try simp only [Act.put, List.setIfInBounds_toArray, List.set_cons_zero, List.set_cons_succ]
    clear bz KT
    refine wpAnyH_ready (rs := [13]) (by kernel_rfl) (by simp) ?_
    refine AllReadyH.cons rfl (fun KK hK => ?_) AllReadyH.nil
    simp only [List.getElem_toArray, List.getElem_cons_succ, List.getElem_cons_zero]
    go_simp
    refine (HWr.out _).mono ?_
    rintro e R4 ⟨rfl, bz⟩
    have KV := hid (KU.out.next bz)
    refine hK.out _ _ KV.out (fun hHeld => ?_)
    clear hK KK
    try simp only [Act.put, List.setIfInBounds_toArray, List.set_cons_zero, List.set_cons_succ]
    clear bz KU
    refine takeH 14 55 (.bool true) rfl rfl (by kernel_rfl) (by kernel_rfl) (by kernel_rfl) (fun _ _ _ h => h) (by kernel_rfl) (fun X hX => by clear hX; cases qw <;> go_simp) hHeld ?_
    simp only [Act.put, List.setIfInBounds_toArray, List.set_cons_zero, List.set_cons_succ]
    refine takeH 15 56 (.bool true) rfl rfl (by kernel_rfl) (by kernel_rfl) (by kernel_rfl) (fun _ _ _ h => h) (by kernel_rfl) (fun X hX => by clear hX; first | rfl | go_simp) hHeld ?_
    simp only [Act.put, List.setIfInBounds_toArray, List.set_cons_zero, List.set_cons_succ]
    refine takeH 16 57 (.bool true) rfl rfl (by kernel_rfl) (by kernel_rfl) (by kernel_rfl) (fun _ _ _ h => h) (by kernel_rfl) (fun X hX => by clear hX; first | rfl | go_simp) hHeld ?_
    simp only [Act.put, List.setIfInBounds_toArray, List.set_cons_zero, List.set_cons_succ]
    refine takeH 17 58 (spv sw sr) rfl rfl (by kernel_rfl) (by kernel_rfl) (by kernel_rfl) (fun _ _ _ h => h) (by kernel_rfl) (fun X hX => by obtain ⟨q0, q1, q2, q3, q4⟩ := hX.l5 (B := A) (t := 48) (x0 := .int .u32 (sw.w : Int)) (x1 := .int .u8 (sw.d : Int)) (x2 := .int .i64 sw.s) (x3 := .int .i64 sw.l) (x4 := .int .i64 sr) (by simp); clear hX; go_simp) hHeld ?_
    simp only [Act.put, List.setIfInBounds_toArray, List.set_cons_zero, List.set_cons_succ]
    refine takeH 18 59 (spv sw sr) rfl rfl (by kernel_rfl) (by kernel_rfl) (by kernel_rfl) (fun _ _ _ h => h) (by kernel_rfl) (fun X hX => by obtain ⟨q0, q1, q2, q3, q4⟩ := hX.l5 (B := B) (t := 48) (x0 := .int .u32 (sw.w : Int)) (x1 := .int .u8 (sw.d : Int)) (x2 := .int .i64 sw.s) (x3 := .int .i64 sw.l) (x4 := .int .i64 sr) (by simp); clear hX; go_simp) hHeld ?_
    simp only [Act.put, List.setIfInBounds_toArray, List.set_cons_zero, List.set_cons_succ]
    refine takeH 19 60 (.bool true) rfl rfl (by kernel_rfl) (by kernel_rfl) (by kernel_rfl) (fun _ _ _ h => h) (by kernel_rfl) (fun X hX => by clear hX; go_simp) hHeld ?_
    simp only [Act.put, List.setIfInBounds_toArray, List.set_cons_zero, List.set_cons_succ]
    refine takeH 20 61 (.bool true) rfl rfl (by kernel_rfl) (by kernel_rfl) (by kernel_rfl) (fun _ _ _ h => h) (by kernel_rfl) (fun X hX => by clear hX; first | rfl | go_simp) hHeld ?_
    simp only [Act.put, List.setIfInBounds_toArray, List.set_cons_zero, List.set_cons_succ]
    refine takeH 21 62 (.bool true) rfl rfl (by kernel_rfl) (by kernel_rfl) (by kernel_rfl) (fun _ _ _ h => h) (by kernel_rfl) (fun X hX => by clear hX; first | rfl | go_simp) hHeld ?_
    simp only [Act.put, List.setIfInBounds_toArray, List.set_cons_zero, List.set_cons_succ]
    refine takeH 22 63 (.bool qs) rfl rfl (by kernel_rfl) (by kernel_rfl) (by kernel_rfl) (fun _ _ _ h => h) (by kernel_rfl) (fun X hX => by clear hX; first | rfl | go_simp) hHeld ?_
    simp only [Act.put, List.setIfInBounds_toArray, List.set_cons_zero, List.set_cons_succ]
    refine takeH 23 64 (.bool qs) rfl rfl (by kernel_rfl) (by kernel_rfl) (by kernel_rfl) (fun _ _ _ h => h) (by kernel_rfl) (fun X hX => by clear hX; first | rfl | go_simp) hHeld ?_
    simp only [Act.put, List.setIfInBounds_toArray, List.set_cons_zero, List.set_cons_succ]
    refine takeH 24 65 (.bool true) rfl rfl (by kernel_rfl) (by kernel_rfl) (by kernel_rfl) (fun _ _ _ h => h) (by kernel_rfl) (fun X hX => by clear hX; cases qs <;> go_simp) hHeld ?_
    simp only [Act.put, List.setIfInBounds_toArray, List.set_cons_zero, List.set_cons_succ]
    refine takeH 25 66 (.bool true) rfl rfl (by kernel_rfl) (by kernel_rfl) (by kernel_rfl) (fun _ _ _ h => h) (by kernel_rfl) (fun X hX => by clear hX; first | rfl | go_simp) hHeld ?_
    simp only [Act.put, List.setIfInBounds_toArray, List.set_cons_zero, List.set_cons_succ]
    refine takeH 26 67 (.bool true) rfl rfl (by kernel_rfl) (by kernel_rfl) (by kernel_rfl) (fun _ _ _ h => h) (by kernel_rfl) (fun X hX => by clear hX; first | rfl | go_simp) hHeld ?_
    simp only [Act.put, List.setIfInBounds_toArray, List.set_cons_zero, List.set_cons_succ]
    refine takeH 27 68 (.int .i64 ct) rfl rfl (by kernel_rfl) (by kernel_rfl) (by kernel_rfl) (fun _ _ _ h => h) (by kernel_rfl) (fun X hX => by clear hX; first | rfl | go_simp) hHeld ?_
    simp only [Act.put, List.setIfInBounds_toArray, List.set_cons_zero, List.set_cons_succ]
    refine takeH 28 69 (.int .i64 ct) rfl rfl (by kernel_rfl) (by kernel_rfl) (by kernel_rfl) (fun _ _ _ h => h) (by kernel_rfl) (fun X hX => by clear hX; first | rfl | go_simp) hHeld ?_
    simp only [Act.put, List.setIfInBounds_toArray, List.set_cons_zero, List.set_cons_succ]
    refine takeH 29 70 (.bool true) rfl rfl (by kernel_rfl) (by kernel_rfl) (by kernel_rfl) (fun _ _ _ h => h) (by kernel_rfl) (fun X hX => by clear hX; go_simp) hHeld ?_
    simp only [Act.put, List.setIfInBounds_toArray, List.set_cons_zero, List.set_cons_succ]
    refine takeH 30 71 (.bool true) rfl rfl (by kernel_rfl) (by kernel_rfl) (by kernel_rfl) (fun _ _ _ h => h) (by kernel_rfl) (fun X hX => by clear hX; first | rfl | go_simp) hHeld ?_
    simp only [Act.put, List.setIfInBounds_toArray, List.set_cons_zero, List.set_cons_succ]
    refine takeH 31 72 (.bool true) rfl rfl (by kernel_rfl) (by kernel_rfl) (by kernel_rfl) (fun _ _ _ h => h) (by kernel_rfl) (fun X hX => by clear hX; first | rfl | go_simp) hHeld ?_
    simp only [Act.put, List.setIfInBounds_toArray, List.set_cons_zero, List.set_cons_succ]
    refine takeH 32 73 (.int .i64 cp) rfl rfl (by kernel_rfl) (by kernel_rfl) (by kernel_rfl) (fun _ _ _ h => h) (by kernel_rfl) (fun X hX => by clear hX; first | rfl | go_simp) hHeld ?_
    simp only [Act.put, List.setIfInBounds_toArray, List.set_cons_zero, List.set_cons_succ]
    refine takeH 33 74 (.int .i64 cp) rfl rfl (by kernel_rfl) (by kernel_rfl) (by kernel_rfl) (fun _ _ _ h => h) (by kernel_rfl) (fun X hX => by clear hX; first | rfl | go_simp) hHeld ?_
    simp only [Act.put, List.setIfInBounds_toArray, List.set_cons_zero, List.set_cons_succ]
    refine takeH 34 75 (.bool true) rfl rfl (by kernel_rfl) (by kernel_rfl) (by kernel_rfl) (fun _ _ _ h => h) (by kernel_rfl) (fun X hX => by clear hX; go_simp) hHeld ?_
    simp only [Act.put, List.setIfInBounds_toArray, List.set_cons_zero, List.set_cons_succ]
    refine takeH 35 76 (.bool true) rfl rfl (by kernel_rfl) (by kernel_rfl) (by kernel_rfl) (fun _ _ _ h => h) (by kernel_rfl) (fun X hX => by clear hX; first | rfl | go_simp) hHeld ?_
    simp only [Act.put, List.setIfInBounds_toArray, List.set_cons_zero, List.set_cons_succ]
    refine takeH 36 77 (.bool true) rfl rfl (by kernel_rfl) (by kernel_rfl) (by kernel_rfl) (fun _ _ _ h => h) (by kernel_rfl) (fun X hX => by clear hX; first | rfl | go_simp) hHeld ?_
    simp only [Act.put, List.setIfInBounds_toArray, List.set_cons_zero, List.set_cons_succ]
    refine wpAnyH_ready (rs := [37]) (by kernel_rfl) (by simp) ?_
    refine AllReadyH.cons rfl (fun KK hK => ?_) AllReadyH.nil
    simp only [List.getElem_toArray, List.getElem_cons_succ, List.getElem_cons_zero]
    go_simp
    refine (HH.out _).mono ?_
    rintro e R5 ⟨rfl, bz⟩
    have KW := hid (KV.out.next bz)
    refine hK.out _ _ KW.out (fun hHeld => ?_)
    clear hK KK
    try simp only [Act.put, List.setIfInBounds_toArray, List.set_cons_zero, List.set_cons_succ]
    clear bz KV
    refine takeH 38 79 (.bool true) rfl rfl (by kernel_rfl) (by kernel_rfl) (by kernel_rfl) (fun _ _ _ h => h) (by kernel_rfl) (fun X hX => by clear hX; first | rfl | go_simp) hHeld ?_
    simp only [Act.put, List.setIfInBounds_toArray, List.set_cons_zero, List.set_cons_succ]
    refine takeH 39 4 (.bool true) rfl rfl (by kernel_rfl) (by kernel_rfl) (by kernel_rfl) (fun _ _ _ h => h) (by kernel_rfl) (fun X hX => by clear hX; first | rfl | go_simp) hHeld ?_
    simp only [Act.put, List.setIfInBounds_toArray, List.set_cons_zero, List.set_cons_succ]
    refine wpAnyH_done (by kernel_rfl) ?_ _
    go_wp2_with fail
    go_ret
    exact ⟨rfl, KW.out.2⟩

/-! ### THE ROW's STEP: WRITTEN OUT: LEAVE IT -/
set_option maxRecDepth 100000 in
theorem lifted (os : Os) (started : os.Started) (H : Type) (enc : TypeId × Value → H) :
    ReturnsInHanded {} Try.checked os 5 .any (Rows.classSpotsSpec.pre6 enc Try.prog Try.f5 Rows.classSpotsRow.domain false) (Rows.classSpotsSpec.post enc Try.prog Try.f5 false true false false) := by
  refine returnsInHanded_of_change (C := Try.checked) own started (by kernel_rfl) Try.func5
    (ChangeSpec.witness6 (enc := enc) (C := Try.checked) false ⟨#[], #[.agg #[.string ⟨#[]⟩, .int .i64 0, .int .u16 0, .slice none 0 0, .slice none 0 0, .slice none 0 0, .int .i64 0], .agg #[.int .i64 0, .int .i64 0]], []⟩ 8 (by kernel_rfl) (by kernel_rfl) (by kernel_rfl) (by kernel_rfl)) ?_
  intro W base args ds gs before hval0 hW hcnd _
  have hval : ∀ (j : Nat) t v, Try.f5.params[j]? = some t → args[j]? = some v → Value.okWide Try.prog W .any base t v := hval0
  have hW' := hW
  obtain ⟨p, q, hA0, hV, rfl, hfz, hnd⟩ := hW
  have hA : DataW.TrodAll enc Try.prog W 0 (fun _ => true) true Try.f5.params.toList args.toList ds p := hA0
  rw [Try.params5] at hA hval
  obtain ⟨v0, vs0, d0, ds0, p0, q0, hargs, rfl, rfl, h0, r0⟩ := trodAll_cons hA
  obtain ⟨v1, vs1, d1, ds1, p1, q1, rfl, rfl, rfl, h1, r1⟩ := trodAll_cons r0
  obtain ⟨rfl, rfl, rfl⟩ := trodAll_nil r1
  obtain rfl : args = #[v0, v1] := by cases args; simp_all
  obtain ⟨rfl, rfl⟩ := trodVars_none hV
  have k0 := h0
  have lt0 : ∀ x ∈ p0, x.block < W.heap.size := by obtain ⟨m, hm⟩ := k0; exact DataW.trod_lt m _ _ _ hm
  obtain ⟨a0, rfl, w0⟩ := open_classA (hval 0 30 v0 rfl rfl) h0
  have k1 := h1
  have lt1 : ∀ x ∈ p1, x.block < W.heap.size := by obtain ⟨m, hm⟩ := k1; exact DataW.trod_lt m _ _ _ hm
  obtain ⟨a1, rfl, w1⟩ := open_seat (hval 1 41 v1 rfl rfl) h1
  clear hA0 hval0
  refine (walk a0 a1 W w0 w1).mono fun e W' ⟨he, bel⟩ => ?_
  subst he
  exact ⟨_, rfl, _, _, _, [], _, [], hW', trodAll_mk1 (shut_bool Try.underlying4 _), (trodAll_cons_mk (Below.trod laidOut (by kernel_rfl) (of_decide_eq_true (by kernel_rfl)) k0 bel lt0) (trodAll_cons_mk (Below.trod laidOut (by kernel_rfl) (of_decide_eq_true (by kernel_rfl)) k1 bel lt1) trodAll_mk0)), rfl, bel.frame _, fun h => by cases h⟩

theorem over : Rows.classSpotsRow.holds Try.pinned (OpenSpec.ofChange Rows.classSpotsSpec) :=
  OpenClaim.holds_of_wide 5 Try.f5 rfl rfl rfl rfl rfl rfl rfl ⟨rfl, rfl, rfl, rfl, rfl⟩ rfl rfl rfl rfl rfl (by kernel_rfl) Try.func5 (by kernel_rfl)
    (of_decide_eq_true (by kernel_rfl)) (by unfold Func.isWrapper; first | (rw [if_pos (by decide +kernel)]; kernel_rfl) | (rw [if_neg (by decide +kernel)]; exact ⟨rfl, rfl⟩))
    (fun os started H enc _ => lifted os started H enc)

/-- ████ THE STATEMENT ████ -/
theorem proved : Rows.ClassSpotsSaid := over
#print axioms proved
end Go.Proofs.Ytcnpfchopjopeaa.classSpots
