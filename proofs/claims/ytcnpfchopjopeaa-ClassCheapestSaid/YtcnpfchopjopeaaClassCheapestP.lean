/- Proves 'ClassCheapestSaid': for every input the Go function ClassCheapest returns true, and each argument reads afterwards as it read before. Conditions: none beyond the row's own. -/
import Derived.Test.YtcnpfchopjopeaaRows
import Derived.WalkKit
import Derived.ProofKit
import Derived.OpenShut
import Derived.ShutString
import Derived.SliceStrings
import Derived.ChangeOld
import Derived.Below
import Derived.Test.YtcnpfchopjopeaaCltE
namespace Go.Proofs.Ytcnpfchopjopeaa.classCheapest
open Go.ChangeShapes Go.WideShapes Go.ChangeAt Go.RowKit
open Go.ChangeMaps (open_string shut_string)
set_option linter.unusedVariables false

theorem own : ownKnob Try.prog.godebug = none := by kernel_rfl
theorem laidOut : laidOutB Try.prog = true := by kernel_rfl

/-- WHAT THE WALK IS TOLD OF A SLICE OF INTEGERS THAT CAME IN: it is nil; or it leads to a row of 'cap' cells, the numbers 'zs' (the first 'len' are its elements, the rest its spare room), each fitting its kind. -/
def IsRow (k : IntKind) (w : World) (a : Option Addr) (len cap : Nat) (zs : List Int) : Prop :=
  (a = none ∧ len = 0 ∧ cap = 0 ∧ zs = []) ∨
  ∃ x, a = some x ∧ len ≤ cap ∧ cap ≤ maxLen ∧ zs.length = cap ∧ (∀ i, i < zs.length → w.cell? (x.add i) = some (.int k (zs.getD i 0))) ∧ ∀ n ∈ zs, (Lit.int k n).wf = true

/-! ### STEP 1: THE WALK: the Go text returns true, AND WRITES NOTHING THAT WAS THERE: 'Below w.heap.size w w'' (Derived/Below.lean: '.refl', '.alloc', '.drew', '.setCell' at a new block, '.trans'). Open each 'IsRow' by 'rcases' AHEAD of 'go_enter'; part every test ahead of the walk. -/
set_option maxRecDepth 20000 in
set_option maxHeartbeats 16000000 in
theorem walk (a0 : ClA) (w : World) (w0 : ClIn w a0) :
    Calls Try.prog 6 #[cvA a0] w fun e w' => e = .returned (.bool true) ∧ Below w.heap.size w w' := by
  obtain ⟨x, r⟩ := a0
  obtain ⟨hok, hw, hc⟩ := w0
  simp only at hok hw hc
  show Calls Try.prog 6 #[cv x r] w (Did (.bool true) w)
  have HF := hid (fun X h => l_few x r X h)
  have HH := hid (fun X => hd_cls X)
  have H := hid hw
  have HS := hid (fun (hf : fewB x = true) X h => p_Cheapest x r (by have := fewB_len hf; omega) (by have := fewB_len hf; omega) (fewB_tame hf) X h)
  have HR := hid (fun (hf : fewB x = true) X h => r_Cheapest x r (by have := fewB_len hf; omega) (by have := fewB_len hf; omega) (fewB_tame hf) X h)
  clear hok hw hc
  generalize cheapS x = cS at *
  generalize cheapN x = cN at *
  generalize fewB x = f1 at *
  obtain ⟨ct, cp⟩ := cS
  obtain ⟨P, W, hP, hW, K1, z0⟩ := (Mem.nil w).one (ccl x r) 30
  clear z0
  obtain ⟨e0, e1, e2, e3, e4, e5, e6⟩ := K1.out.cl (B := P) (x := x) (r := r) (t := 30) (by simp)
  go_enter Try.func6, Try.ntmps6
  go_wp2_with fail
  refine (HF.out _ (H.out.next K1.out.2)).mono ?_
  rintro e Y1 ⟨rfl, b1⟩
  have K2 := hid (K1.out.next b1)
  clear e0 e1 e2 e3 e4 e5 e6 b1 K1
  obtain ⟨e0, e1, e2, e3, e4, e5, e6⟩ := K2.out.cl (B := P) (x := x) (r := r) (t := 30) (by simp)
  cases f1 with
  | false =>
    go_wp2_with fail
    refine (HH.out _).mono ?_
    rintro e Y1 ⟨rfl, bz⟩
    go_wp2_with fail
    go_ret
    exact Did.mk rfl (K2.out.next bz).2
  | true =>
    have HS1 := hid (HS.out rfl)
    have HR1 := hid (HR.out rfl)
    clear HS HR HF
    go_wp2_with fail
    refine (HS1.out _ (H.out.next K2.out.2)).mono ?_
    rintro e Y2 ⟨rfl, bz⟩
    have K3 := hid (K2.out.next bz)
    clear e0 e1 e2 e3 e4 e5 e6 bz K2
    obtain ⟨D, U, hD, hU, K4, zz⟩ := K3.out.one (sc ⟨ct, cp⟩) 41
    clear zz K3
    obtain ⟨e0, e1, e2, e3, e4, e5, e6⟩ := K4.out.cl (B := P) (x := x) (r := r) (t := 30) (by simp)
    go_wp2_with fail
    refine (HR1.out _ (H.out.next K4.out.2)).mono ?_
    rintro e Y3 ⟨rfl, bz⟩
    have K5 := hid (K4.out.next bz)
    clear e0 e1 e2 e3 e4 e5 e6 bz K4
    obtain ⟨D2, U2, hD2, hU2, K6, zz⟩ := K5.out.one (sc ⟨ct, cp⟩) 41
    clear zz K5
    obtain ⟨d0, d1⟩ := K6.out.se (B := D) (s := ⟨ct, cp⟩) (t := 41) (by simp)
    obtain ⟨f0, f1⟩ := K6.out.se (B := D2) (s := ⟨ct, cp⟩) (t := 41) (by simp)
    simp only at d0 d1 f0 f1
    go_wp2_with fail
    refine (HH.out _).mono ?_
    rintro e Y1 ⟨rfl, bz⟩
    go_wp2_with fail
    go_ret
    exact Did.mk rfl (K6.out.next bz).2

/-! ### THE ROW's STEP: WRITTEN OUT: LEAVE IT -/
set_option maxRecDepth 100000 in
theorem lifted (os : Os) (started : os.Started) (H : Type) (enc : TypeId × Value → H) :
    ReturnsInHanded {} Try.checked os 6 .any (Rows.classCheapestSpec.pre6 enc Try.prog Try.f6 Rows.classCheapestRow.domain false) (Rows.classCheapestSpec.post enc Try.prog Try.f6 false true false false) := by
  refine returnsInHanded_of_change (C := Try.checked) own started (by kernel_rfl) Try.func6
    (ChangeSpec.witness6 (enc := enc) (C := Try.checked) false ⟨#[], #[.agg #[.string ⟨#[]⟩, .int .i64 0, .int .u16 0, .slice none 0 0, .slice none 0 0, .slice none 0 0, .int .i64 0]], []⟩ 8 (by kernel_rfl) (by kernel_rfl) (by kernel_rfl) (by kernel_rfl)) ?_
  intro W base args ds gs before hval0 hW hcnd _
  have hval : ∀ (j : Nat) t v, Try.f6.params[j]? = some t → args[j]? = some v → Value.okWide Try.prog W .any base t v := hval0
  have hW' := hW
  obtain ⟨p, q, hA0, hV, rfl, hfz, hnd⟩ := hW
  have hA : DataW.TrodAll enc Try.prog W 0 (fun _ => true) true Try.f6.params.toList args.toList ds p := hA0
  rw [Try.params6] at hA hval
  obtain ⟨v0, vs0, d0, ds0, p0, q0, hargs, rfl, rfl, h0, r0⟩ := trodAll_cons hA
  obtain ⟨rfl, rfl, rfl⟩ := trodAll_nil r0
  obtain rfl : args = #[v0] := by cases args; simp_all
  obtain ⟨rfl, rfl⟩ := trodVars_none hV
  have k0 := h0
  have lt0 : ∀ x ∈ p0, x.block < W.heap.size := by obtain ⟨m, hm⟩ := k0; exact DataW.trod_lt m _ _ _ hm
  obtain ⟨a0, rfl, w0⟩ := open_classA (hval 0 30 v0 rfl rfl) h0
  clear hA0 hval0
  refine (walk a0 W w0).mono fun e W' ⟨he, bel⟩ => ?_
  subst he
  exact ⟨_, rfl, _, _, _, [], _, [], hW', trodAll_mk1 (shut_bool Try.underlying4 _), (trodAll_cons_mk (Below.trod laidOut (by kernel_rfl) (of_decide_eq_true (by kernel_rfl)) k0 bel lt0) trodAll_mk0), rfl, bel.frame _, fun h => by cases h⟩

theorem over : Rows.classCheapestRow.holds Try.pinned (OpenSpec.ofChange Rows.classCheapestSpec) :=
  OpenClaim.holds_of_wide 6 Try.f6 rfl rfl rfl rfl rfl rfl rfl ⟨rfl, rfl, rfl, rfl, rfl⟩ rfl rfl rfl rfl rfl (by kernel_rfl) Try.func6 (by kernel_rfl)
    (of_decide_eq_true (by kernel_rfl)) (by unfold Func.isWrapper; first | (rw [if_pos (by decide +kernel)]; kernel_rfl) | (rw [if_neg (by decide +kernel)]; exact ⟨rfl, rfl⟩))
    (fun os started H enc _ => lifted os started H enc)

/-- ████ THE STATEMENT ████ -/
theorem proved : Rows.ClassCheapestSaid := over
#print axioms proved
end Go.Proofs.Ytcnpfchopjopeaa.classCheapest
