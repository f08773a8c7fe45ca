/- Proves 'DigitsOrderSaid': for every input the Go function DigitsOrder returns true, and each argument reads afterwards as it read before. Conditions: none beyond the row's own. -/
import Derived.Test.YtaiohmodhngpbaaRows
import Derived.WalkKit
import Derived.ProofKit
import Derived.OpenShut
import Derived.ShutString
import Derived.ChangeOld
import Derived.Below
import Derived.Test.YtaiohmodhngpbaaDigW
namespace Go.Proofs.Ytaiohmodhngpbaa.digitsOrder
open Go.ChangeShapes Go.WideShapes Go.ChangeAt Go.RowKit
open Go.ChangeMaps (open_string shut_string)
set_option linter.unusedVariables false

theorem own : ownKnob Try.prog.godebug = none := by kernel_rfl
theorem laidOut : laidOutB Try.prog = true := by kernel_rfl

/-- WHAT THE WALK IS TOLD OF A SLICE OF INTEGERS THAT CAME IN: it is nil; or it leads to a row of 'cap' cells, the numbers 'zs' (the first 'len' are its elements, the rest its spare room), each fitting its kind. -/
def IsRow (k : IntKind) (w : World) (a : Option Addr) (len cap : Nat) (zs : List Int) : Prop :=
  (a = none ∧ len = 0 ∧ cap = 0 ∧ zs = []) ∨
  ∃ x, a = some x ∧ len ≤ cap ∧ cap ≤ maxLen ∧ zs.length = cap ∧ (∀ i, i < zs.length → w.cell? (x.add i) = some (.int k (zs.getD i 0))) ∧ ∀ n ∈ zs, (Lit.int k n).wf = true

/-! ### STEP 1: THE WALK: the Go text returns true, AND WRITES NOTHING THAT WAS THERE: 'Below w.heap.size w w'' (Derived/Below.lean: '.refl', '.alloc', '.drew', '.setCell' at a new block, '.trans'). Open each 'IsRow' by 'rcases' AHEAD of 'go_enter'; part every test ahead of the walk. -/
theorem walk (a0 : Int) (a1 : Int) (w : World) (w0 : (Lit.int .u64 a0).wf = true) (w1 : (Lit.int .u64 a1).wf = true) :
    Calls Try.prog 8 #[.int .u64 a0, .int .u64 a1] w fun e w' => e = .returned (.bool true) ∧ Below w.heap.size w w' := by
  obtain ⟨u1, u2⟩ := bounds_u64 w0
  obtain ⟨u, rfl⟩ := Int.eq_ofNat_of_zero_le u1
  obtain ⟨v1, v2⟩ := bounds_u64 w1
  obtain ⟨v, rfl⟩ := Int.eq_ofNat_of_zero_le v1
  have ho := Dig.wd_order u v (by omega) (by omega)
  have Hu := hid (fun w => d_Word u (by omega) w)
  have Hv := hid (fun w => d_Word v (by omega) w)
  have hlu := Dig.wd_length_le u
  have hlv := Dig.wd_length_le v
  generalize Dig.wd u = l at *
  generalize Dig.wd v = m at *
  have hl : (bs l).toList = l := by rw [list_of]; rfl
  have hm : (bs m).toList = m := by rw [list_of]; rfl
  have hsl := bs_size l
  have hsm := bs_size m
  rw [← hsl, ← hsm] at ho
  rw [← hsl] at hlu
  rw [← hsm] at hlv
  have hsl2 : (bs l).size = l.length := bs_size l
  have hsm2 : (bs m).size = m.length := bs_size m
  clear hsl hsm w0 w1
  have key : (u < v ∧ (bs l).size < (bs m).size) ∨ (u < v ∧ ¬ (bs l).size < (bs m).size ∧ (((bs l).size : Int) == (bs m).size) = true ∧ Op.bytesLess (bs l).toList (bs m).toList = true) ∨ (¬ u < v ∧ ¬ (bs l).size < (bs m).size ∧ (((bs l).size : Int) == (bs m).size) = true ∧ Op.bytesLess (bs l).toList (bs m).toList = false) ∨ (¬ u < v ∧ ¬ (bs l).size < (bs m).size ∧ (((bs l).size : Int) == (bs m).size) = false) := by
    rw [hl, hm]
    by_cases c1 : (bs l).size < (bs m).size
    · exact .inl ⟨ho.2 (.inl c1), c1⟩
    · by_cases c2 : (bs l).size = (bs m).size
      · have c2' : (((bs l).size : Int) == (bs m).size) = true := by rw [beq_iff_eq]; omega
        cases c3 : Op.bytesLess l m with
        | true => exact .inr (.inl ⟨ho.2 (.inr ⟨c2, c3⟩), c1, c2', rfl⟩)
        | false => exact .inr (.inr (.inl ⟨fun h => (by rcases ho.1 h with h | ⟨_, h⟩; exact c1 h; rw [c3] at h; simp at h), c1, c2', rfl⟩))
      · have c2' : (((bs l).size : Int) == (bs m).size) = false := by rw [beq_eq_false_iff_ne]; omega
        exact .inr (.inr (.inr ⟨fun h => (by rcases ho.1 h with h | ⟨h, _⟩; exact c1 h; exact c2 h), c1, c2'⟩))
  clear ho hl hm hsl2 hsm2
  rcases key with ⟨g1, g2⟩ | ⟨g1, g2, g3, g4⟩ | ⟨g1, g2, g3, g4⟩ | ⟨g1, g2, g3⟩
  all_goals
    go_enter Try.func8, Try.ntmps8
    go_wp2_with fail
    refine (Hu.out _).mono ?_
    rintro e w' ⟨rfl, b1⟩
    go_wp2_with fail
    refine (Hv.out _).mono ?_
    rintro e w' ⟨rfl, b2⟩
    go_wp2_with fail
    refine (heads _).mono ?_
    rintro e w' ⟨rfl, b3⟩
    go_wp2_with fail
    go_ret
    exact ⟨rfl, below3 b1 b2 b3⟩

/-! ### THE ROW's STEP: WRITTEN OUT: LEAVE IT -/
set_option maxRecDepth 100000 in
theorem lifted (os : Os) (started : os.Started) (H : Type) (enc : TypeId × Value → H) :
    ReturnsInHanded {} Try.checked os 8 .any (Rows.digitsOrderSpec.pre6 enc Try.prog Try.f8 Rows.digitsOrderRow.domain false) (Rows.digitsOrderSpec.post enc Try.prog Try.f8 false true false false) := by
  refine returnsInHanded_of_change (C := Try.checked) own started (by kernel_rfl) Try.func8
    (ChangeSpec.witness6 (enc := enc) (C := Try.checked) false ⟨#[], #[.int .u64 0, .int .u64 0], []⟩ 8 (by kernel_rfl) (by kernel_rfl) (by kernel_rfl) (by kernel_rfl)) ?_
  intro W base args ds gs before hval0 hW hcnd _
  have hval : ∀ (j : Nat) t v, Try.f8.params[j]? = some t → args[j]? = some v → Value.okWide Try.prog W .any base t v := hval0
  have hW' := hW
  obtain ⟨p, q, hA0, hV, rfl, hfz, hnd⟩ := hW
  have hA : DataW.TrodAll enc Try.prog W 0 (fun _ => true) true Try.f8.params.toList args.toList ds p := hA0
  rw [Try.params8] at hA hval
  obtain ⟨v0, vs0, d0, ds0, p0, q0, hargs, rfl, rfl, h0, r0⟩ := trodAll_cons hA
  obtain ⟨v1, vs1, d1, ds1, p1, q1, rfl, rfl, rfl, h1, r1⟩ := trodAll_cons r0
  obtain ⟨rfl, rfl, rfl⟩ := trodAll_nil r1
  obtain rfl : args = #[v0, v1] := by cases args; simp_all
  obtain ⟨rfl, rfl⟩ := trodVars_none hV
  obtain ⟨a0, rfl, rfl, rfl, w0⟩ := open_int Try.underlying22 (hval 0 22 v0 rfl rfl) h0
  obtain ⟨a1, rfl, rfl, rfl, w1⟩ := open_int Try.underlying22 (hval 1 22 v1 rfl rfl) h1
  clear hA0 hval0
  refine (walk a0 a1 W w0 w1).mono fun e W' ⟨he, bel⟩ => ?_
  subst he
  exact ⟨_, rfl, _, _, _, [], _, [], hW', trodAll_mk1 (shut_bool Try.underlying4 _), (trodAll_cons_mk (shut_int Try.underlying22 w0) (trodAll_cons_mk (shut_int Try.underlying22 w1) trodAll_mk0)), rfl, bel.frame _, fun h => by cases h⟩

theorem over : Rows.digitsOrderRow.holds Try.pinned (OpenSpec.ofChange Rows.digitsOrderSpec) :=
  OpenClaim.holds_of_wide 8 Try.f8 rfl rfl rfl rfl rfl rfl rfl ⟨rfl, rfl, rfl, rfl, rfl⟩ rfl rfl rfl rfl rfl (by kernel_rfl) Try.func8 (by kernel_rfl)
    (of_decide_eq_true (by kernel_rfl)) (by unfold Func.isWrapper; first | (rw [if_pos (by decide +kernel)]; kernel_rfl) | (rw [if_neg (by decide +kernel)]; exact ⟨rfl, rfl⟩))
    (fun os started H enc _ => lifted os started H enc)

/-- ████ THE STATEMENT ████ -/
theorem proved : Rows.DigitsOrderSaid := over
#print axioms proved
end Go.Proofs.Ytaiohmodhngpbaa.digitsOrder
