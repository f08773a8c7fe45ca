/- Proves 'ProblemChecksSaid': for every input the Go function ProblemChecks returns true, and each argument reads afterwards as it read before. Conditions: none beyond the row's own. -/
import Derived.Test.YtgmgccepmalahaaGreatRows
import Derived.WalkKit
import Derived.ProofKit
import Derived.OpenShut
import Derived.ShutString
import Derived.SliceStrings
import Derived.ChangeOld
import Derived.Below
import Derived.Test.YtgmgccepmalahaaGreatPrmL
import Derived.Test.YtgmgccepmalahaaGreatPrbG
import Derived.Test.YtgmgccepmalahaaGreatPrbH
import Derived.Test.YtgmgccepmalahaaGreatPrbK
import Derived.Test.YtgmgccepmalahaaGreatPrbL
namespace Go.Proofs.YtgmgccepmalahaaGreat.problemChecks
open Go.ChangeShapes Go.WideShapes Go.ChangeAt Go.RowKit
open Go.ChangeMaps (open_string shut_string)
set_option linter.unusedVariables false

theorem own : ownKnob Tryz.prog.godebug = none := by kernel_rfl
theorem laidOut : laidOutB Tryz.prog = true := by kernel_rfl

/-- WHAT THE WALK IS TOLD OF A SLICE OF INTEGERS THAT CAME IN: it is nil; or it leads to a row of 'cap' cells, the numbers 'zs' (the first 'len' are its elements, the rest its spare room), each fitting its kind. -/
def IsRow (k : IntKind) (w : World) (a : Option Addr) (len cap : Nat) (zs : List Int) : Prop :=
  (a = none ∧ len = 0 ∧ cap = 0 ∧ zs = []) ∨
  ∃ x, a = some x ∧ len ≤ cap ∧ cap ≤ maxLen ∧ zs.length = cap ∧ (∀ i, i < zs.length → w.cell? (x.add i) = some (.int k (zs.getD i 0))) ∧ ∀ n ∈ zs, (Lit.int k n).wf = true

/-! ### STEP 1: THE WALK: the Go text returns true, AND WRITES NOTHING THAT WAS THERE: 'Below w.heap.size w w'' (Derived/Below.lean: '.refl', '.alloc', '.drew', '.setCell' at a new block, '.trans'). Open each 'IsRow' by 'rcases' AHEAD of 'go_enter'; part every test ahead of the walk. -/
set_option maxRecDepth 20000 in
set_option maxHeartbeats 16000000 in
theorem walk (a0 : PbA) (w : World) (w0 : PbIn w a0) :
    Calls Tryz.prog 3 #[pbv a0] w fun e w' => e = .returned (.bool true) ∧ Below w.heap.size w w' := by
  revert w0; generalize a0 = x; intro h0
  show Calls Tryz.prog 3 #[pbv x] w (Did (.bool true) w)
  have HH := hid (fun X => heads17 X)
  have HF := hid (fun X (hb : Below w.heap.size w X) => r17_Few x X (h0.next hb))
  have HP := hid (fun hf X (hb : Below w.heap.size w X) => p_Check17 x X (h0.next hb) hf)
  have HR := hid (fun hf X (hb : Below w.heap.size w X) => r17_Check x X (h0.next hb) hf)
  have HT := hid (fun hf X (hb : Below w.heap.size w X) => p_Right17 x X (h0.next hb) hf)
  have hq : ((chk x.p).1 == 0) = pbR x.p := by unfold pbR; exact (deq _).symm
  generalize (chk x.p).1 = e1 at *
  generalize (chk x.p).2 = e2 at *
  generalize pbR x.p = q at *
  have HI := hid h0
  obtain ⟨G, W, hG, hW, K, hb0⟩ := (Mem.nil w).one (pbc x) 34
  have Hcell := hid (fun X (h : Mem w X [(G, pbc x, 34)]) => h.pb (B := G) (x := x) (t := 34) (by simp))
  obtain ⟨p0, p1, p2, p3, p4, p5, p6, p7, p8, p9, p10, p11, p12, p13, p14⟩ := Hcell.out _ K.out
  clear h0 hb0
  go_enter Tryz.func3, Tryz.ntmps3
  go_wp2_with fail
  refine (HF.out _ K.out.2).mono ?_
  rintro e Y0 ⟨fb, rfl, hfb, bz⟩
  have K0 := hid (K.out.next bz)
  clear p0 p1 p2 p3 p4 p5 p6 p7 p8 p9 p10 p11 p12 p13 p14
  clear bz K hW HF
  cases fb with
  | false =>
    clear hfb
    go_wp2_with fail
    refine (HH.out _).mono ?_
    rintro e Y1 ⟨rfl, bz⟩
    have K1 := hid (K0.out.next bz)
    go_wp2_with fail
    go_ret
    exact Did.mk rfl K1.out.2
  | true =>
    have hf := hfb rfl
    clear hfb
    have HP1 := hid (HP.out hf)
    have HR1 := hid (HR.out hf)
    have HT1 := hid (HT.out hf)
    clear hf HP HR HT
    obtain ⟨p0, p1, p2, p3, p4, p5, p6, p7, p8, p9, p10, p11, p12, p13, p14⟩ := Hcell.out _ K0.out
    go_wp2_with fail
    refine (HP1.out _ K0.out.2).mono ?_
    rintro e Y1 ⟨rfl, bz⟩
    have K1 := hid (K0.out.next bz)
    clear p0 p1 p2 p3 p4 p5 p6 p7 p8 p9 p10 p11 p12 p13 p14
    clear bz K0
    obtain ⟨p0, p1, p2, p3, p4, p5, p6, p7, p8, p9, p10, p11, p12, p13, p14⟩ := Hcell.out _ K1.out
    go_wp2_with fail
    refine (HR1.out _ K1.out.2).mono ?_
    rintro e Y2 ⟨rfl, bz⟩
    have K2 := hid (K1.out.next bz)
    clear p0 p1 p2 p3 p4 p5 p6 p7 p8 p9 p10 p11 p12 p13 p14
    clear bz K1
    obtain ⟨p0, p1, p2, p3, p4, p5, p6, p7, p8, p9, p10, p11, p12, p13, p14⟩ := Hcell.out _ K2.out
    go_wp2_with fail
    refine (HT1.out _ K2.out.2).mono ?_
    rintro e Y3 ⟨rfl, bz⟩
    have K3 := hid (K2.out.next bz)
    clear p0 p1 p2 p3 p4 p5 p6 p7 p8 p9 p10 p11 p12 p13 p14
    clear bz K2
    go_wp2_with fail
    refine (HH.out _).mono ?_
    rintro e Y4 ⟨rfl, bz⟩
    have K4 := hid (K3.out.next bz)
    go_wp2_with fail
    go_ret
    exact Did.mk rfl K4.out.2

/-! ### THE ROW's STEP: WRITTEN OUT: LEAVE IT -/
set_option maxRecDepth 100000 in
theorem lifted (os : Os) (started : os.Started) (H : Type) (enc : TypeId × Value → H) :
    ReturnsInHanded {} Tryz.checked os 3 .any (Rows.problemChecksSpec.pre6 enc Tryz.prog Tryz.f3 Rows.problemChecksRow.domain false) (Rows.problemChecksSpec.post enc Tryz.prog Tryz.f3 false true false false) := by
  refine returnsInHanded_of_change (C := Tryz.checked) own started (by kernel_rfl) Tryz.func3
    (ChangeSpec.witness6 (enc := enc) (C := Tryz.checked) false ⟨#[], #[.agg #[.string ⟨#[]⟩, .int .i64 0, .int .i64 0, .int .i64 0, .slice none 0 0, .slice none 0 0, .slice none 0 0, .slice none 0 0, .slice none 0 0, .slice none 0 0, .slice none 0 0, .int .i64 0, .int .i64 0, .int .i64 0, .int .i64 0]], []⟩ 8 (by kernel_rfl) (by kernel_rfl) (by kernel_rfl) (by kernel_rfl)) ?_
  intro W base args ds gs before hval0 hW hcnd _
  have hval : ∀ (j : Nat) t v, Tryz.f3.params[j]? = some t → args[j]? = some v → Value.okWide Tryz.prog W .any base t v := hval0
  have hW' := hW
  obtain ⟨p, q, hA0, hV, rfl, hfz, hnd⟩ := hW
  have hA : DataW.TrodAll enc Tryz.prog W 0 (fun _ => true) true Tryz.f3.params.toList args.toList ds p := hA0
  rw [Tryz.params3] at hA hval
  obtain ⟨v0, vs0, d0, ds0, p0, q0, hargs, rfl, rfl, h0, r0⟩ := trodAll_cons hA
  obtain ⟨rfl, rfl, rfl⟩ := trodAll_nil r0
  obtain rfl : args = #[v0] := by cases args; simp_all
  obtain ⟨rfl, rfl⟩ := trodVars_none hV
  have k0 := h0
  have lt0 : ∀ x ∈ p0, x.block < W.heap.size := by obtain ⟨m, hm⟩ := k0; exact DataW.trod_lt m _ _ _ hm
  obtain ⟨a0, rfl, w0⟩ := open_problem (hval 0 34 v0 rfl rfl) h0
  clear hA0 hval0
  refine (walk a0 W w0).mono fun e W' ⟨he, bel⟩ => ?_
  subst he
  exact ⟨_, rfl, _, _, _, [], _, [], hW', trodAll_mk1 (shut_bool Tryz.underlying4 _), (trodAll_cons_mk (Below.trod laidOut (by kernel_rfl) (of_decide_eq_true (by kernel_rfl)) k0 bel lt0) trodAll_mk0), rfl, bel.frame _, fun h => by cases h⟩

theorem over : Rows.problemChecksRow.holds Tryz.pinned (OpenSpec.ofChange Rows.problemChecksSpec) :=
  OpenClaim.holds_of_wide 3 Tryz.f3 rfl rfl rfl rfl rfl rfl rfl ⟨rfl, rfl, rfl, rfl, rfl⟩ rfl rfl rfl rfl rfl (by kernel_rfl) Tryz.func3 (by kernel_rfl)
    (of_decide_eq_true (by kernel_rfl)) (by unfold Func.isWrapper; first | (rw [if_pos (by decide +kernel)]; kernel_rfl) | (rw [if_neg (by decide +kernel)]; exact ⟨rfl, rfl⟩))
    (fun os started H enc _ => lifted os started H enc)

/-- ████ THE STATEMENT ████ -/
theorem proved : Rows.ProblemChecksSaid := over
#print axioms proved
end Go.Proofs.YtgmgccepmalahaaGreat.problemChecks
