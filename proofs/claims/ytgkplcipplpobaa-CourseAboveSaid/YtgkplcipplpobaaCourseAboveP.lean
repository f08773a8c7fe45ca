/- Proves 'CourseAboveSaid': for every input the Go function CourseAbove returns true, and each argument reads afterwards as it read before. Conditions: none beyond the row's own. -/
import Derived.Test.YtgkplcipplpobaaRows
import Derived.WalkKit
import Derived.ProofKit
import Derived.OpenShut
import Derived.ShutString
import Derived.SliceStrings
import Derived.ChangeOld
import Derived.Below
import Derived.Test.YtgkplcipplpobaaCrtM
namespace Go.Proofs.Ytgkplcipplpobaa.courseAbove
open Go.ChangeShapes Go.WideShapes Go.ChangeAt Go.RowKit
open Go.ChangeMaps (open_string shut_string)
set_option linter.unusedVariables false

theorem own : ownKnob Try.prog.godebug = none := by kernel_rfl
theorem laidOut : laidOutB Try.prog = true := by kernel_rfl

/-- WHAT THE WALK IS TOLD OF A SLICE OF INTEGERS THAT CAME IN: it is nil; or it leads to a row of 'cap' cells, the numbers 'zs' (the first 'len' are its elements, the rest its spare room), each fitting its kind. -/
def IsRow (k : IntKind) (w : World) (a : Option Addr) (len cap : Nat) (zs : List Int) : Prop :=
  (a = none ∧ len = 0 ∧ cap = 0 ∧ zs = []) ∨
  ∃ x, a = some x ∧ len ≤ cap ∧ cap ≤ maxLen ∧ zs.length = cap ∧ (∀ i, i < zs.length → w.cell? (x.add i) = some (.int k (zs.getD i 0))) ∧ ∀ n ∈ zs, (Lit.int k n).wf = true

/-! ### STEP 1: THE WALK: the Go text returns true, AND WRITES NOTHING THAT WAS THERE: 'Below w.heap.size w w'' (Derived/Below.lean: '.refl', '.alloc', '.drew', '.setCell' at a new block, '.trans'). Open each 'IsRow' by 'rcases' AHEAD of 'go_enter'; part every test ahead of the walk. -/
set_option maxRecDepth 20000 in
set_option maxHeartbeats 16000000 in
theorem walk (a0 : CkA) (a1 : Int) (w : World) (w0 : CkIn w a0) (w1 : (Lit.int .i64 a1).wf = true) :
    Calls Try.prog 6 #[ckA a0, .int .i64 a1] w fun e w' => e = .returned (.bool true) ∧ Below w.heap.size w w' := by
  obtain ⟨l, A0, c0⟩ := a0
  obtain ⟨hw0, hc0, hcm0, _⟩ := w0
  simp only at hw0 hc0 hcm0
  show Calls Try.prog 6 #[.slice A0 l.length c0, .int .i64 a1] w (Did (.bool true) w)
  have hlm : l.length ≤ maxLen := Nat.le_trans hc0 hcm0
  unfold maxLen at hlm
  have HH := hid (fun X => heads14 X)
  have HS := hid (fun hm X h => p_AboveC A0 c0 l hm a1 X h)
  have HR := hid (fun hm X h => r_Above A0 c0 l hm a1 X h)
  have Hlen := hid (show (aboveC l a1).length ≤ l.length from abv_len l a1 l.length)
  have HI := hid (fun A1 A2 c1 c2 hm X h h2 => hq_ints A1 A2 c1 c2 (aboveC l a1) hm X h h2)
  have H0 := hid hw0
  clear hw0 hc0 hcm0 w1
  generalize aboveC l a1 = ab at *
  go_enter Try.func6, Try.ntmps6
  by_cases m60 : (60 : Int) < (l.length : Int)
  · go_wp2_with fail
    refine (HH.out _).mono ?_
    rintro e Y1 ⟨rfl, bz⟩
    go_wp2_with fail
    go_ret
    exact Did.mk rfl bz
  · have HS1 := hid (fun X h => HS.out (by omega) X h)
    have HR1 := hid (fun X h => HR.out (by omega) X h)
    go_wp2_with fail
    refine (HS1.out _ H0.out).mono ?_
    rintro e Y1 ⟨v1, rfl, ho1, b1⟩
    obtain ⟨A1, c1, rfl, hr1, _⟩ := own_rd ho1
    have Hr1 := hid hr1
    have B1 := hid b1
    clear ho1 hr1 b1 HS HR HS1
    go_wp2_with fail
    refine (HR1.out _ ((H0.out.below B1.out (Nat.le_refl _)).more B1.out.size)).mono ?_
    rintro e Y2 ⟨v2, rfl, ho2, b2⟩
    obtain ⟨A2, c2, rfl, hr2, _⟩ := own_rd ho2
    have Hr2 := hid (its_next' Hr1.out b2)
    have Hr3 := hid hr2
    have B2 := hid (below2 B1.out b2)
    have hl2 := Hlen.out
    clear ho2 hr2 b2 Hr1
    go_wp2_with fail
    refine (HI.out A1 A2 c1 c2 (by unfold maxLen; omega) Y2 Hr2.out Hr3.out).mono ?_
    rintro e Y3 ⟨rfl, b3⟩
    have B3 := hid (below2 B2.out b3)
    clear b3
    go_wp2_with fail
    refine (HH.out _).mono ?_
    rintro e Y4 ⟨rfl, b4⟩
    have B4 := hid (below2 B3.out b4)
    clear b4
    go_wp2_with fail
    go_ret
    exact Did.mk rfl B4.out

/-! ### THE ROW's STEP: WRITTEN OUT: LEAVE IT -/
set_option maxRecDepth 100000 in
theorem lifted (os : Os) (started : os.Started) (H : Type) (enc : TypeId × Value → H) :
    ReturnsInHanded {} Try.checked os 6 .any (Rows.courseAboveSpec.pre6 enc Try.prog Try.f6 Rows.courseAboveRow.domain false) (Rows.courseAboveSpec.post enc Try.prog Try.f6 false true false false) := by
  refine returnsInHanded_of_change (C := Try.checked) own started (by kernel_rfl) Try.func6
    (ChangeSpec.witness6 (enc := enc) (C := Try.checked) false ⟨#[], #[.slice none 0 0, .int .i64 0], []⟩ 8 (by kernel_rfl) (by kernel_rfl) (by kernel_rfl) (by kernel_rfl)) ?_
  intro W base args ds gs before hval0 hW hcnd _
  have hval : ∀ (j : Nat) t v, Try.f6.params[j]? = some t → args[j]? = some v → Value.okWide Try.prog W .any base t v := hval0
  have hW' := hW
  obtain ⟨p, q, hA0, hV, rfl, hfz, hnd⟩ := hW
  have hA : DataW.TrodAll enc Try.prog W 0 (fun _ => true) true Try.f6.params.toList args.toList ds p := hA0
  rw [Try.params6] at hA hval
  obtain ⟨v0, vs0, d0, ds0, p0, q0, hargs, rfl, rfl, h0, r0⟩ := trodAll_cons hA
  obtain ⟨v1, vs1, d1, ds1, p1, q1, rfl, rfl, rfl, h1, r1⟩ := trodAll_cons r0
  obtain ⟨rfl, rfl, rfl⟩ := trodAll_nil r1
  obtain rfl : args = #[v0, v1] := by cases args; simp_all
  obtain ⟨rfl, rfl⟩ := trodVars_none hV
  have k0 := h0
  have lt0 : ∀ x ∈ p0, x.block < W.heap.size := by obtain ⟨m, hm⟩ := k0; exact DataW.trod_lt m _ _ _ hm
  obtain ⟨a0, rfl, w0⟩ := open_ckA (hval 0 32 v0 rfl rfl) h0
  obtain ⟨a1, rfl, rfl, rfl, w1⟩ := open_int Try.underlying3 (hval 1 3 v1 rfl rfl) h1
  clear hA0 hval0
  refine (walk a0 a1 W w0 w1).mono fun e W' ⟨he, bel⟩ => ?_
  subst he
  exact ⟨_, rfl, _, _, _, [], _, [], hW', trodAll_mk1 (shut_bool Try.underlying4 _), (trodAll_cons_mk (Below.trod laidOut (by kernel_rfl) (of_decide_eq_true (by kernel_rfl)) k0 bel lt0) (trodAll_cons_mk (shut_int Try.underlying3 w1) trodAll_mk0)), rfl, bel.frame _, fun h => by cases h⟩

theorem over : Rows.courseAboveRow.holds Try.pinned (OpenSpec.ofChange Rows.courseAboveSpec) :=
  OpenClaim.holds_of_wide 6 Try.f6 rfl rfl rfl rfl rfl rfl rfl ⟨rfl, rfl, rfl, rfl, rfl⟩ rfl rfl rfl rfl rfl (by kernel_rfl) Try.func6 (by kernel_rfl)
    (of_decide_eq_true (by kernel_rfl)) (by unfold Func.isWrapper; first | (rw [if_pos (by decide +kernel)]; kernel_rfl) | (rw [if_neg (by decide +kernel)]; exact ⟨rfl, rfl⟩))
    (fun os started H enc _ => lifted os started H enc)

/-- ████ THE STATEMENT ████ -/
theorem proved : Rows.CourseAboveSaid := over
#print axioms proved
end Go.Proofs.Ytgkplcipplpobaa.courseAbove
