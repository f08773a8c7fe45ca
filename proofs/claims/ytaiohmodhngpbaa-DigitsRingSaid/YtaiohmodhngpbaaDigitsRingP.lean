/- Proves 'DigitsRingSaid': for every input the Go function DigitsRing returns true, and each argument reads afterwards as it read before. Conditions: none beyond the row's own. -/
import Derived.Test.YtaiohmodhngpbaaRows
import Derived.WalkKit
import Derived.ProofKit
import Derived.OpenShut
import Derived.ShutString
import Derived.ChangeOld
import Derived.Below
import Derived.Test.YtaiohmodhngpbaaDigW
namespace Go.Proofs.Ytaiohmodhngpbaa.digitsRing
open Go.ChangeShapes Go.WideShapes Go.ChangeAt Go.RowKit
open Go.ChangeMaps (open_string shut_string)
set_option linter.unusedVariables false

theorem own : ownKnob Try.prog.godebug = none := by kernel_rfl
theorem laidOut : laidOutB Try.prog = true := by kernel_rfl

/-- WHAT THE WALK IS TOLD OF A SLICE OF INTEGERS THAT CAME IN: it is nil; or it leads to a row of 'cap' cells, the numbers 'zs' (the first 'len' are its elements, the rest its spare room), each fitting its kind. -/
def IsRow (k : IntKind) (w : World) (a : Option Addr) (len cap : Nat) (zs : List Int) : Prop :=
  (a = none ∧ len = 0 ∧ cap = 0 ∧ zs = []) ∨
  ∃ x, a = some x ∧ len ≤ cap ∧ cap ≤ maxLen ∧ zs.length = cap ∧ (∀ i, i < zs.length → w.cell? (x.add i) = some (.int k (zs.getD i 0))) ∧ ∀ n ∈ zs, (Lit.int k n).wf = true

/-! ### STEP 1: THE WALK: the Go text returns true, AND WRITES NOTHING THAT WAS THERE: 'Below w.heap.size w w'' (Derived/Below.lean: '.refl', '.alloc', '.drew', '.setCell' at a new block, '.trans'). Open each 'IsRow' by 'rcases' AHEAD of 'go_enter'; part every test ahead of the walk. -/
theorem walk (a0 : Int) (a1 : Int) (w : World) (w0 : (Lit.int .i64 a0).wf = true) (w1 : (Lit.int .i64 a1).wf = true) :
    Calls Try.prog 7 #[.int .i64 a0, .int .i64 a1] w fun e w' => e = .returned (.bool true) ∧ Below w.heap.size w w' := by
  obtain ⟨a1', a2'⟩ := bounds_i64 w0
  obtain ⟨b1', b2'⟩ := bounds_i64 w1
  have Hx := hid (fun w => d_Add a0 a1 a1' a2' b1' b2' w)
  have hy := fun w => d_Add a1 a0 b1' b2' a1' a2' w
  rw [Int.add_comm a1 a0] at hy
  have Hy := hid hy
  have Hz := hid (fun w => d_Mul a0 a1 a1' a2' b1' b2' w)
  have hu := fun w => d_Mul a1 a0 b1' b2' a1' a2' w
  rw [Int.mul_comm a1 a0] at hu
  have Hu := hid hu
  have h1 := fun w => d_Mul a0 1 a1' a2' (by omega) (by omega) w
  rw [Int.mul_one, Dig.fits_in _ ⟨a1', a2'⟩] at h1
  have H1 := hid h1
  have h0 := fun w => d_Add a0 0 a1' a2' (by omega) (by omega) w
  rw [Int.add_zero, Dig.fits_in _ ⟨a1', a2'⟩] at h0
  have H0 := hid h0
  have hp : (Dig.fits (a0 + a1)).2 = true → (Dig.fits (a0 + a1)).1 = a0 + a1 := by
    unfold Dig.fits; split <;> simp
  have hp2 : (Dig.fits (a0 + a1)).2 = false → (Dig.fits (a0 + a1)).1 = 0 := by
    unfold Dig.fits; split <;> simp
  have hr2 : (Dig.fits (a0 * a1)).2 = false → (Dig.fits (a0 * a1)).1 = 0 := by
    unfold Dig.fits; split <;> simp
  clear hy hu h1 h0
  generalize Dig.fits (a0 + a1) = s at *
  generalize Dig.fits (a0 * a1) = t at *
  obtain ⟨x, p⟩ := s
  obtain ⟨z, r⟩ := t
  simp only [] at hp hp2 hr2
  have key : (p = true ∧ 0 < a1 ∧ a0 < x) ∨ (p = true ∧ a1 < 0 ∧ x < a0) ∨ (p = true ∧ a1 = 0 ∧ x = a0) ∨ (p = false ∧ x = 0) := by
    cases p with
    | true =>
      have := hp rfl
      rcases Int.lt_trichotomy a1 0 with h | h | h
      · exact .inr (.inl ⟨rfl, h, by omega⟩)
      · exact .inr (.inr (.inl ⟨rfl, h, by omega⟩))
      · exact .inl ⟨rfl, h, by omega⟩
    | false => exact .inr (.inr (.inr ⟨rfl, hp2 rfl⟩))
  have key2 : r = true ∨ (r = false ∧ z = 0) := by
    cases r with
    | true => exact .inl rfl
    | false => exact .inr ⟨rfl, hr2 rfl⟩
  clear hp hp2 hr2
  rcases key with ⟨rfl, g1, g2⟩ | ⟨rfl, g1, g2⟩ | ⟨rfl, rfl, rfl⟩ | ⟨rfl, rfl⟩ <;> rcases key2 with rfl | ⟨rfl, rfl⟩
  all_goals
    go_enter Try.func7, Try.ntmps7
    go_wp2_with fail
    refine (Hx.out _).mono ?_
    rintro e w' ⟨rfl, rfl⟩
    go_wp2_with fail
    refine (Hy.out _).mono ?_
    rintro e w' ⟨rfl, rfl⟩
    go_wp2_with fail
    refine (Hz.out _).mono ?_
    rintro e w' ⟨rfl, rfl⟩
    go_wp2_with fail
    refine (Hu.out _).mono ?_
    rintro e w' ⟨rfl, rfl⟩
    go_wp2_with fail
    refine (H1.out _).mono ?_
    rintro e w' ⟨rfl, rfl⟩
    go_wp2_with fail
    refine (H0.out _).mono ?_
    rintro e w' ⟨rfl, rfl⟩
    go_wp2_with fail
    refine (heads _).mono ?_
    rintro e w' ⟨rfl, hb⟩
    go_wp2_with fail
    go_ret
    exact ⟨rfl, hb⟩

/-! ### THE ROW's STEP: WRITTEN OUT: LEAVE IT -/
set_option maxRecDepth 100000 in
theorem lifted (os : Os) (started : os.Started) (H : Type) (enc : TypeId × Value → H) :
    ReturnsInHanded {} Try.checked os 7 .any (Rows.digitsRingSpec.pre6 enc Try.prog Try.f7 Rows.digitsRingRow.domain false) (Rows.digitsRingSpec.post enc Try.prog Try.f7 false true false false) := by
  refine returnsInHanded_of_change (C := Try.checked) own started (by kernel_rfl) Try.func7
    (ChangeSpec.witness6 (enc := enc) (C := Try.checked) false ⟨#[], #[.int .i64 0, .int .i64 0], []⟩ 8 (by kernel_rfl) (by kernel_rfl) (by kernel_rfl) (by kernel_rfl)) ?_
  intro W base args ds gs before hval0 hW hcnd _
  have hval : ∀ (j : Nat) t v, Try.f7.params[j]? = some t → args[j]? = some v → Value.okWide Try.prog W .any base t v := hval0
  have hW' := hW
  obtain ⟨p, q, hA0, hV, rfl, hfz, hnd⟩ := hW
  have hA : DataW.TrodAll enc Try.prog W 0 (fun _ => true) true Try.f7.params.toList args.toList ds p := hA0
  rw [Try.params7] at hA hval
  obtain ⟨v0, vs0, d0, ds0, p0, q0, hargs, rfl, rfl, h0, r0⟩ := trodAll_cons hA
  obtain ⟨v1, vs1, d1, ds1, p1, q1, rfl, rfl, rfl, h1, r1⟩ := trodAll_cons r0
  obtain ⟨rfl, rfl, rfl⟩ := trodAll_nil r1
  obtain rfl : args = #[v0, v1] := by cases args; simp_all
  obtain ⟨rfl, rfl⟩ := trodVars_none hV
  obtain ⟨a0, rfl, rfl, rfl, w0⟩ := open_int Try.underlying3 (hval 0 3 v0 rfl rfl) h0
  obtain ⟨a1, rfl, rfl, rfl, w1⟩ := open_int Try.underlying3 (hval 1 3 v1 rfl rfl) h1
  clear hA0 hval0
  refine (walk a0 a1 W w0 w1).mono fun e W' ⟨he, bel⟩ => ?_
  subst he
  exact ⟨_, rfl, _, _, _, [], _, [], hW', trodAll_mk1 (shut_bool Try.underlying4 _), (trodAll_cons_mk (shut_int Try.underlying3 w0) (trodAll_cons_mk (shut_int Try.underlying3 w1) trodAll_mk0)), rfl, bel.frame _, fun h => by cases h⟩

theorem over : Rows.digitsRingRow.holds Try.pinned (OpenSpec.ofChange Rows.digitsRingSpec) :=
  OpenClaim.holds_of_wide 7 Try.f7 rfl rfl rfl rfl rfl rfl rfl ⟨rfl, rfl, rfl, rfl, rfl⟩ rfl rfl rfl rfl rfl (by kernel_rfl) Try.func7 (by kernel_rfl)
    (of_decide_eq_true (by kernel_rfl)) (by unfold Func.isWrapper; first | (rw [if_pos (by decide +kernel)]; kernel_rfl) | (rw [if_neg (by decide +kernel)]; exact ⟨rfl, rfl⟩))
    (fun os started H enc _ => lifted os started H enc)

/-- ████ THE STATEMENT ████ -/
theorem proved : Rows.DigitsRingSaid := over
#print axioms proved
end Go.Proofs.Ytaiohmodhngpbaa.digitsRing
