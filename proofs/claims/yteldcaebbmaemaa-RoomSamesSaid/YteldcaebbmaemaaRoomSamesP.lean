/- Proves 'RoomSamesSaid': for every input the Go function RoomSames returns true, and each argument reads afterwards as it read before. Conditions: none beyond the row's own. -/
import Derived.Test.YteldcaebbmaemaaRows
import Derived.WalkKit
import Derived.ProofKit
import Derived.OpenShut
import Derived.ShutString
import Derived.SliceStrings
import Derived.ChangeOld
import Derived.Below
import Derived.Test.YteldcaebbmaemaaRomZ
namespace Go.Proofs.Yteldcaebbmaemaa.roomSames
open Go.ChangeShapes Go.WideShapes Go.ChangeAt Go.RowKit
open Go.ChangeMaps (open_string shut_string)
set_option linter.unusedVariables false

theorem own : ownKnob Try.prog.godebug = none := by kernel_rfl
theorem laidOut : laidOutB Try.prog = true := by kernel_rfl

/-- WHAT THE WALK IS TOLD OF A SLICE OF INTEGERS THAT CAME IN: it is nil; or it leads to a row of 'cap' cells, the numbers 'zs' (the first 'len' are its elements, the rest its spare room), each fitting its kind. -/
def IsRow (k : IntKind) (w : World) (a : Option Addr) (len cap : Nat) (zs : List Int) : Prop :=
  (a = none ∧ len = 0 ∧ cap = 0 ∧ zs = []) ∨
  ∃ x, a = some x ∧ len ≤ cap ∧ cap ≤ maxLen ∧ zs.length = cap ∧ (∀ i, i < zs.length → w.cell? (x.add i) = some (.int k (zs.getD i 0))) ∧ ∀ n ∈ zs, (Lit.int k n).wf = true

/-! ### STEP 1: THE WALK: the Go text returns true, AND WRITES NOTHING THAT WAS THERE: 'Below w.heap.size w w'' (Derived/Below.lean: '.refl', '.alloc', '.drew', '.setCell' at a new block, '.trans'). Open each 'IsRow' by 'rcases' AHEAD of 'go_enter'; part every test ahead of the walk. -/
set_option maxRecDepth 20000 in
set_option maxHeartbeats 16000000 in
theorem walk (a0 : RmA) (a1 : RmA) (w : World) (w0 : RmIn w a0) (w1 : RmIn w a1) :
    Calls Try.prog 7 #[rvA a0, rvA a1] w fun e w' => e = .returned (.bool true) ∧ Below w.heap.size w w' := by
  obtain ⟨x, A, c⟩ := a0
  obtain ⟨y, A2, c2⟩ := a1
  obtain ⟨hx, hwx, hcx, hmx⟩ := w0
  obtain ⟨hy, hwy, hcy, hmy⟩ := w1
  simp only at hx hwx hcx hmx hy hwy hcy hmy
  show Calls Try.prog 7 #[rv x A c, rv y A2 c2] w (Did (.bool true) w)
  have HF1 := hid (fun X => p_few x A c X)
  have HF2 := hid (fun X => p_few y A2 c2 X)
  have HH := hid (fun X => hd_ok X)
  have hlx : x.l.length ≤ maxLen := Nat.le_trans hcx hmx
  have H1 := hid hwx
  have H2 := hid hwy
  have HS := hid (fun X h h2 => p_SameRoom x y A A2 c c2 hlx X h h2)
  have HR := hid (fun X h h2 => r_Same x y A A2 c c2 hlx X h h2)
  have HX := hid (fun X h => p_SameRoom x x A A c c hlx X h h)
  rw [(rmEq_iff x x).2 rfl] at HX
  clear hx hwx hcx hmx hy hwy hcy hmy hlx
  obtain ⟨P, W, hP, hW, K, z0⟩ := (Mem.nil w).one (rc x A c) 27
  obtain ⟨R, V, hR, hV, K1, z1⟩ := K.out.one (rc y A2 c2) 27
  clear K z0 z1
  obtain ⟨r0, r1, r2, r3⟩ := K1.out.rm (B := P) (r := x) (A := A) (c := c) (by simp)
  generalize rmEq x y = q at *
  generalize fewB x = f1 at *
  generalize fewB y = f2 at *
  go_enter Try.func7, Try.ntmps7
  go_wp2_with fail
  refine (HF1.out _).mono ?_
  rintro e Y1 ⟨rfl, b1⟩
  have K2 := hid (K1.out.next b1)
  clear r0 r1 r2 r3 b1 K1
  obtain ⟨r0, r1, r2, r3⟩ := K2.out.rm (B := R) (r := y) (A := A2) (c := c2) (by simp)
  cases f1 with
  | false =>
    go_wp2_with fail
    refine (HH.out _).mono ?_
    rintro e Y2 ⟨rfl, b2⟩
    go_wp2_with fail
    go_ret
    exact Did.mk rfl (K2.out.next b2).2
  | true =>
    go_wp2_with fail
    refine (HF2.out _).mono ?_
    rintro e Y2 ⟨rfl, b2⟩
    have K3 := hid (K2.out.next b2)
    clear r0 r1 r2 r3 b2 K2
    obtain ⟨r0, r1, r2, r3⟩ := K3.out.rm (B := R) (r := y) (A := A2) (c := c2) (by simp)
    obtain ⟨s0, s1, s2, s3⟩ := K3.out.rm (B := P) (r := x) (A := A) (c := c) (by simp)
    cases f2 with
    | false =>
      go_wp2_with fail
      refine (HH.out _).mono ?_
      rintro e Y3 ⟨rfl, b3⟩
      go_wp2_with fail
      go_ret
      exact Did.mk rfl (K3.out.next b3).2
    | true =>
      go_wp2_with fail
      clear r0 r1 r2 r3 s0 s1 s2 s3
      refine wp_region_held_drew (S := fun X => Mem w X [(R, rc y A2 c2, 27), (P, rc x A c, 27)]) (by kernel_rfl) K3.out.drew (fun hHeld => ?_)
      refine takeH 0 14 (rv x A c) rfl rfl (by kernel_rfl) (by kernel_rfl) (by kernel_rfl) (fun _ _ _ h => h) (by kernel_rfl) (fun X hX => by obtain ⟨q0, q1, q2, q3⟩ := hX.rm (B := P) (r := x) (A := A) (c := c) (by simp); clear hX; go_simp) hHeld ?_
      simp only [Act.put, List.setIfInBounds_toArray, List.set_cons_zero, List.set_cons_succ]
      refine takeH 1 15 (rv y A2 c2) rfl rfl (by kernel_rfl) (by kernel_rfl) (by kernel_rfl) (fun _ _ _ h => h) (by kernel_rfl) (fun X hX => by obtain ⟨q0, q1, q2, q3⟩ := hX.rm (B := R) (r := y) (A := A2) (c := c2) (by simp); clear hX; go_simp) hHeld ?_
      simp only [Act.put, List.setIfInBounds_toArray, List.set_cons_zero, List.set_cons_succ]
      refine takeH 3 17 (rv x A c) rfl rfl (by kernel_rfl) (by kernel_rfl) (by kernel_rfl) (fun _ _ _ h => h) (by kernel_rfl) (fun X hX => by obtain ⟨q0, q1, q2, q3⟩ := hX.rm (B := P) (r := x) (A := A) (c := c) (by simp); clear hX; go_simp) hHeld ?_
      simp only [Act.put, List.setIfInBounds_toArray, List.set_cons_zero, List.set_cons_succ]
      refine takeH 4 18 (rv y A2 c2) rfl rfl (by kernel_rfl) (by kernel_rfl) (by kernel_rfl) (fun _ _ _ h => h) (by kernel_rfl) (fun X hX => by obtain ⟨q0, q1, q2, q3⟩ := hX.rm (B := R) (r := y) (A := A2) (c := c2) (by simp); clear hX; go_simp) hHeld ?_
      simp only [Act.put, List.setIfInBounds_toArray, List.set_cons_zero, List.set_cons_succ]
      refine wpAnyH_ready (rs := [2]) (by kernel_rfl) (by simp) ?_
      refine AllReadyH.cons rfl (fun KK hK => ?_) AllReadyH.nil
      simp only [List.getElem_toArray, List.getElem_cons_succ, List.getElem_cons_zero]
      go_simp
      refine (HS.out _ ((H1.out.below K3.out.drew.2 (Nat.le_refl _)).more K3.out.drew.2.size) ((H2.out.below K3.out.drew.2 (Nat.le_refl _)).more K3.out.drew.2.size)).mono ?_
      rintro e Y3 ⟨rfl, b3⟩
      have K4 := K3.out.drew.next b3
      refine hK.out _ _ K4 (fun hHeld => ?_)
      clear hK KK
      try simp only [Act.put, List.setIfInBounds_toArray, List.set_cons_zero, List.set_cons_succ]
      refine wpAnyH_ready (rs := [5]) (by kernel_rfl) (by simp) ?_
      refine AllReadyH.cons rfl (fun KK hK => ?_) AllReadyH.nil
      simp only [List.getElem_toArray, List.getElem_cons_succ, List.getElem_cons_zero]
      go_simp
      refine (HR.out _ ((H1.out.below K4.2 (Nat.le_refl _)).more K4.2.size) ((H2.out.below K4.2 (Nat.le_refl _)).more K4.2.size)).mono ?_
      rintro e Y4 ⟨rfl, b4⟩
      have K5 := K4.next b4
      refine hK.out _ _ K5 (fun hHeld => ?_)
      clear hK KK
      try simp only [Act.put, List.setIfInBounds_toArray, List.set_cons_zero, List.set_cons_succ]
      refine takeH 6 20 (.bool true) rfl rfl (by kernel_rfl) (by kernel_rfl) (by kernel_rfl) (fun _ _ _ h => h) (by kernel_rfl) (fun X hX => by clear hX; cases q <;> go_simp) hHeld ?_
      simp only [Act.put, List.setIfInBounds_toArray, List.set_cons_zero, List.set_cons_succ]
      refine takeH 7 21 (.bool true) rfl rfl (by kernel_rfl) (by kernel_rfl) (by kernel_rfl) (fun _ _ _ h => h) (by kernel_rfl) (fun X hX => by clear hX; first | rfl | go_simp) hHeld ?_
      simp only [Act.put, List.setIfInBounds_toArray, List.set_cons_zero, List.set_cons_succ]
      refine takeH 8 22 (rv x A c) rfl rfl (by kernel_rfl) (by kernel_rfl) (by kernel_rfl) (fun _ _ _ h => h) (by kernel_rfl) (fun X hX => by obtain ⟨q0, q1, q2, q3⟩ := hX.rm (B := P) (r := x) (A := A) (c := c) (by simp); clear hX; go_simp) hHeld ?_
      simp only [Act.put, List.setIfInBounds_toArray, List.set_cons_zero, List.set_cons_succ]
      refine takeH 9 23 (rv x A c) rfl rfl (by kernel_rfl) (by kernel_rfl) (by kernel_rfl) (fun _ _ _ h => h) (by kernel_rfl) (fun X hX => by obtain ⟨q0, q1, q2, q3⟩ := hX.rm (B := P) (r := x) (A := A) (c := c) (by simp); clear hX; go_simp) hHeld ?_
      simp only [Act.put, List.setIfInBounds_toArray, List.set_cons_zero, List.set_cons_succ]
      refine wpAnyH_ready (rs := [10]) (by kernel_rfl) (by simp) ?_
      refine AllReadyH.cons rfl (fun KK hK => ?_) AllReadyH.nil
      simp only [List.getElem_toArray, List.getElem_cons_succ, List.getElem_cons_zero]
      go_simp
      refine (HX.out _ ((H1.out.below K5.2 (Nat.le_refl _)).more K5.2.size)).mono ?_
      rintro e Y5 ⟨rfl, b5⟩
      have K6 := K5.next b5
      refine hK.out _ _ K6 (fun hHeld => ?_)
      clear hK KK
      try simp only [Act.put, List.setIfInBounds_toArray, List.set_cons_zero, List.set_cons_succ]
      refine takeH 11 25 (.bool true) rfl rfl (by kernel_rfl) (by kernel_rfl) (by kernel_rfl) (fun _ _ _ h => h) (by kernel_rfl) (fun X hX => by clear hX; first | rfl | go_simp) hHeld ?_
      simp only [Act.put, List.setIfInBounds_toArray, List.set_cons_zero, List.set_cons_succ]
      refine takeH 12 26 (.bool true) rfl rfl (by kernel_rfl) (by kernel_rfl) (by kernel_rfl) (fun _ _ _ h => h) (by kernel_rfl) (fun X hX => by clear hX; first | rfl | go_simp) hHeld ?_
      simp only [Act.put, List.setIfInBounds_toArray, List.set_cons_zero, List.set_cons_succ]
      refine wpAnyH_ready (rs := [13]) (by kernel_rfl) (by simp) ?_
      refine AllReadyH.cons rfl (fun KK hK => ?_) AllReadyH.nil
      simp only [List.getElem_toArray, List.getElem_cons_succ, List.getElem_cons_zero]
      go_simp
      refine (HH.out _).mono ?_
      rintro e Y6 ⟨rfl, b6⟩
      have K7 := K6.next b6
      refine hK.out _ _ K7 (fun hHeld => ?_)
      clear hK KK
      try simp only [Act.put, List.setIfInBounds_toArray, List.set_cons_zero, List.set_cons_succ]
      refine takeH 14 28 (.bool true) rfl rfl (by kernel_rfl) (by kernel_rfl) (by kernel_rfl) (fun _ _ _ h => h) (by kernel_rfl) (fun X hX => by clear hX; first | rfl | go_simp) hHeld ?_
      simp only [Act.put, List.setIfInBounds_toArray, List.set_cons_zero, List.set_cons_succ]
      refine takeH 15 4 (.bool true) rfl rfl (by kernel_rfl) (by kernel_rfl) (by kernel_rfl) (fun _ _ _ h => h) (by kernel_rfl) (fun X hX => by clear hX; first | rfl | go_simp) hHeld ?_
      simp only [Act.put, List.setIfInBounds_toArray, List.set_cons_zero, List.set_cons_succ]
      refine wpAnyH_done (by kernel_rfl) ?_ _
      go_wp2_with fail
      go_ret
      exact ⟨rfl, K7.2⟩

/-! ### THE ROW's STEP: WRITTEN OUT: LEAVE IT -/
set_option maxRecDepth 100000 in
theorem lifted (os : Os) (started : os.Started) (H : Type) (enc : TypeId × Value → H) :
    ReturnsInHanded {} Try.checked os 7 .any (Rows.roomSamesSpec.pre6 enc Try.prog Try.f7 Rows.roomSamesRow.domain false) (Rows.roomSamesSpec.post enc Try.prog Try.f7 false true false false) := by
  refine returnsInHanded_of_change (C := Try.checked) own started (by kernel_rfl) Try.func7
    (ChangeSpec.witness6 (enc := enc) (C := Try.checked) false ⟨#[], #[.agg #[.string ⟨#[]⟩, .int .i64 0, .int .u16 0, .slice none 0 0], .agg #[.string ⟨#[]⟩, .int .i64 0, .int .u16 0, .slice none 0 0]], []⟩ 8 (by kernel_rfl) (by kernel_rfl) (by kernel_rfl) (by kernel_rfl)) ?_
  intro W base args ds gs before hval0 hW hcnd _
  have hval : ∀ (j : Nat) t v, Try.f7.params[j]? = some t → args[j]? = some v → Value.okWide Try.prog W .any base t v := hval0
  have hW' := hW
  obtain ⟨p, q, hA0, hV, rfl, hfz, hnd⟩ := hW
  have hA : DataW.TrodAll enc Try.prog W 0 (fun _ => true) true Try.f7.params.toList args.toList ds p := hA0
  rw [Try.params7] at hA hval
  obtain ⟨v0, vs0, d0, ds0, p0, q0, hargs, rfl, rfl, h0, r0⟩ := trodAll_cons hA
  obtain ⟨v1, vs1, d1, ds1, p1, q1, rfl, rfl, rfl, h1, r1⟩ := trodAll_cons r0
  obtain ⟨rfl, rfl, rfl⟩ := trodAll_nil r1
  obtain rfl : args = #[v0, v1] := by cases args; simp_all
  obtain ⟨rfl, rfl⟩ := trodVars_none hV
  have k0 := h0
  have lt0 : ∀ x ∈ p0, x.block < W.heap.size := by obtain ⟨m, hm⟩ := k0; exact DataW.trod_lt m _ _ _ hm
  obtain ⟨a0, rfl, w0⟩ := open_roomA (hval 0 27 v0 rfl rfl) h0
  have k1 := h1
  have lt1 : ∀ x ∈ p1, x.block < W.heap.size := by obtain ⟨m, hm⟩ := k1; exact DataW.trod_lt m _ _ _ hm
  obtain ⟨a1, rfl, w1⟩ := open_roomA (hval 1 27 v1 rfl rfl) h1
  clear hA0 hval0
  refine (walk a0 a1 W w0 w1).mono fun e W' ⟨he, bel⟩ => ?_
  subst he
  exact ⟨_, rfl, _, _, _, [], _, [], hW', trodAll_mk1 (shut_bool Try.underlying4 _), (trodAll_cons_mk (Below.trod laidOut (by kernel_rfl) (of_decide_eq_true (by kernel_rfl)) k0 bel lt0) (trodAll_cons_mk (Below.trod laidOut (by kernel_rfl) (of_decide_eq_true (by kernel_rfl)) k1 bel lt1) trodAll_mk0)), rfl, bel.frame _, fun h => by cases h⟩

theorem over : Rows.roomSamesRow.holds Try.pinned (OpenSpec.ofChange Rows.roomSamesSpec) :=
  OpenClaim.holds_of_wide 7 Try.f7 rfl rfl rfl rfl rfl rfl rfl ⟨rfl, rfl, rfl, rfl, rfl⟩ rfl rfl rfl rfl rfl (by kernel_rfl) Try.func7 (by kernel_rfl)
    (of_decide_eq_true (by kernel_rfl)) (by unfold Func.isWrapper; first | (rw [if_pos (by decide +kernel)]; kernel_rfl) | (rw [if_neg (by decide +kernel)]; exact ⟨rfl, rfl⟩))
    (fun os started H enc _ => lifted os started H enc)

/-- ████ THE STATEMENT ████ -/
theorem proved : Rows.RoomSamesSaid := over
#print axioms proved
end Go.Proofs.Yteldcaebbmaemaa.roomSames
