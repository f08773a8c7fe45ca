/- Proves 'SumSealsSaid': for every input the Go function SumSeals returns true, and each argument reads afterwards as it read before. Conditions: none beyond the row's own. -/
import Derived.Test.YtonlcndljnfhgaaRows
import Derived.WalkKit
import Derived.ProofKit
import Derived.OpenShut
import Derived.ShutString
import Derived.SliceStrings
import Derived.ChangeOld
import Derived.Below
import Derived.Test.YtonlcndljnfhgaaSumH
namespace Go.Proofs.Ytonlcndljnfhgaa.sumSeals
open Go.ChangeShapes Go.WideShapes Go.ChangeAt Go.RowKit
open Go.ChangeMaps (open_string shut_string)
set_option linter.unusedVariables false

theorem own : ownKnob Try.prog.godebug = none := by kernel_rfl
theorem laidOut : laidOutB Try.prog = true := by kernel_rfl

/-- WHAT THE WALK IS TOLD OF A SLICE OF INTEGERS THAT CAME IN: it is nil; or it leads to a row of 'cap' cells, the numbers 'zs' (the first 'len' are its elements, the rest its spare room), each fitting its kind. -/
def IsRow (k : IntKind) (w : World) (a : Option Addr) (len cap : Nat) (zs : List Int) : Prop :=
  (a = none ∧ len = 0 ∧ cap = 0 ∧ zs = []) ∨
  ∃ x, a = some x ∧ len ≤ cap ∧ cap ≤ maxLen ∧ zs.length = cap ∧ (∀ i, i < zs.length → w.cell? (x.add i) = some (.int k (zs.getD i 0))) ∧ ∀ n ∈ zs, (Lit.int k n).wf = true

/-! ### STEP 1: THE WALK: the Go text returns true, AND WRITES NOTHING THAT WAS THERE: 'Below w.heap.size w w'' (Derived/Below.lean: '.refl', '.alloc', '.drew', '.setCell' at a new block, '.trans'). Open each 'IsRow' by 'rcases' AHEAD of 'go_enter'; part every test ahead of the walk. -/
set_option maxHeartbeats 400000 in
theorem walk (a0 : Option Addr) (len0 cap0 : Nat) (z0 : List Int) (w : World) (w0 : IsRow .u8 w a0 len0 cap0 z0) :
    Calls Try.prog 5 #[.slice a0 len0 cap0] w fun e w' => e = .returned (.bool true) ∧ Below w.heap.size w w' := by
  obtain ⟨b, hl, hbyt, hlc, hcm⟩ := open_byt w0
  clear w0
  by_cases hbig : 3000 < len0
  · have hbig' : (3000 : Int) < len0 := by omega
    go_enter Try.func5, Try.ntmps5
    go_wp2_with fail
    refine (heads _).mono ?_
    rintro e w' ⟨rfl, b⟩
    go_wp2_with fail
    go_ret
    exact ⟨rfl, b⟩
  have hbig' : ¬ (3000 : Int) < len0 := by omega
  have HB := hid (fun (w' : World) (hb : Below w.heap.size w w') => hbyt.below hb (Nat.le_refl _))
  have C1 := hid (p_Open a0 len0 cap0 b hl hlc (by omega) w _ (Nat.le_refl _) hbyt)
  have C2 := hid (fun (w' : World) (hb : Below w.heap.size w w') => r_Open a0 len0 cap0 b hl hlc (by omega) w' _ hb.size (HB.out w' hb))
  have C3 := hid (fun (w' : World) (hb : Below w.heap.size w w') => p_Seal a0 len0 cap0 b hl hlc (by omega) w' _ hb.size (HB.out w' hb))
  have C4 := hid (fun (w' : World) (hb : Below w.heap.size w w') => r_Seal a0 len0 cap0 b hl (by omega) w' _ hb.size (HB.out w' hb))
  unfold OpRet at C1 C2
  unfold BRet at C3 C4
  have Sm := hid (fun (A A' : Option Addr) (n c c' : Nat) (l : List UInt8) (hn : l.length = n) (B B' : Nat) (w : World) (h : Byt w B A l) (h' : Byt w B' A' l) => p_Same A A' n n c c' l l hn hn B B' w h h')
  unfold BoolRet at Sm
  simp only [decide_true] at Sm
  generalize (Sum.open_ b).1 = x1 at *
  generalize (Sum.open_ b).2 = x2 at *
  generalize Sum.seal_ b = x3 at *
  clear hbyt
  go_enter Try.func5, Try.ntmps5
  go_wp2_with fail
  refine (C1.out).mono ?_
  rintro e v1 ⟨A1, c1, rfl, s1, b1⟩
  have S1 := hid s1
  clear s1
  go_wp2_with fail
  refine (C2.out _ b1).mono ?_
  rintro e v2 ⟨A2, c2, rfl, s2, b2⟩
  have S2 := hid s2
  clear s2
  have b12 := below2 b1 b2
  go_wp2_with fail
  refine (C3.out _ b12).mono ?_
  rintro e v3 ⟨A3, c3, rfl, s3, _, b3⟩
  have S3 := hid s3
  clear s3
  have b13 := below2 b12 b3
  go_wp2_with fail
  refine (C4.out _ b13).mono ?_
  rintro e v4 ⟨A4, c4, rfl, s4, _, b4⟩
  have G1 := hid (Sm.out A3 A4 _ c3 c4 x3 rfl _ _ v4 (S3.out.below b4 (Nat.le_refl _)) s4)
  have G2 := hid (Sm.out A1 A2 _ c1 c2 x1 rfl _ _ v4 (S1.out.below (below3 b2 b3 b4) (Nat.le_refl _)) (S2.out.below (below2 b3 b4) (Nat.le_refl _)))
  clear s4
  go_wp2_with fail
  refine (G1.out).mono ?_
  rintro e w' ⟨rfl, rfl⟩
  go_wp2_with fail
  refine (G2.out).mono ?_
  rintro e w' ⟨rfl, rfl⟩
  go_wp2_with fail
  refine (heads _).mono ?_
  rintro e w' ⟨rfl, b5⟩
  go_wp2_with fail
  go_ret
  exact ⟨rfl, below3 b13 b4 b5⟩

/-! ### THE ROW's STEP: WRITTEN OUT: LEAVE IT -/
set_option maxRecDepth 100000 in
theorem lifted (os : Os) (started : os.Started) (H : Type) (enc : TypeId × Value → H) :
    ReturnsInHanded {} Try.checked os 5 .any (Rows.sumSealsSpec.pre6 enc Try.prog Try.f5 Rows.sumSealsRow.domain false) (Rows.sumSealsSpec.post enc Try.prog Try.f5 false true false false) := by
  refine returnsInHanded_of_change (C := Try.checked) own started (by kernel_rfl) Try.func5
    (ChangeSpec.witness6 (enc := enc) (C := Try.checked) false ⟨#[], #[.slice none 0 0], []⟩ 8 (by kernel_rfl) (by kernel_rfl) (by kernel_rfl) (by kernel_rfl)) ?_
  intro W base args ds gs before hval0 hW hcnd _
  have hval : ∀ (j : Nat) t v, Try.f5.params[j]? = some t → args[j]? = some v → Value.okWide Try.prog W .any base t v := hval0
  have hW' := hW
  obtain ⟨p, q, hA0, hV, rfl, hfz, hnd⟩ := hW
  have hA : DataW.TrodAll enc Try.prog W 0 (fun _ => true) true Try.f5.params.toList args.toList ds p := hA0
  rw [Try.params5] at hA hval
  obtain ⟨v0, vs0, d0, ds0, p0, q0, hargs, rfl, rfl, h0, r0⟩ := trodAll_cons hA
  obtain ⟨rfl, rfl, rfl⟩ := trodAll_nil r0
  obtain rfl : args = #[v0] := by cases args; simp_all
  obtain ⟨rfl, rfl⟩ := trodVars_none hV
  obtain ⟨a0, len0, cap0, rfl⟩ := okWide_slice Try.underlying22 (hval 0 22 v0 rfl rfl)
  have k0 := h0
  have lt0 : ∀ x ∈ p0, x.block < W.heap.size := by obtain ⟨m, hm⟩ := k0; exact DataW.trod_lt m _ _ _ hm
  obtain ⟨z0, w0⟩ : ∃ zs, IsRow .u8 W a0 len0 cap0 zs := by
    obtain ⟨fuel, hf⟩ := h0
    rcases open_ints Try.underlying22 Try.underlying5 (by kernel_rfl) hf with ⟨hcs, _⟩ | ⟨x, l, c, zs, hcs, _, hl, hm, hz, _, hcell, hwz⟩
    · simp [Value.cells] at hcs
      obtain ⟨rfl, rfl, rfl⟩ := hcs
      exact ⟨[], .inl ⟨rfl, rfl, rfl, rfl⟩⟩
    · simp [Value.cells] at hcs
      obtain ⟨rfl, rfl, rfl⟩ := hcs
      exact ⟨zs, .inr ⟨_, rfl, hl, hm, by simpa using hz, hcell, hwz⟩⟩
  clear hA0 hval0
  refine (walk a0 len0 cap0 z0 W w0).mono fun e W' ⟨he, bel⟩ => ?_
  subst he
  exact ⟨_, rfl, _, _, _, [], _, [], hW', trodAll_mk1 (shut_bool Try.underlying4 _), (trodAll_cons_mk (Below.trod laidOut (by kernel_rfl) (of_decide_eq_true (by kernel_rfl)) k0 bel lt0) trodAll_mk0), rfl, bel.frame _, fun h => by cases h⟩

theorem over : Rows.sumSealsRow.holds Try.pinned (OpenSpec.ofChange Rows.sumSealsSpec) :=
  OpenClaim.holds_of_wide 5 Try.f5 rfl rfl rfl rfl rfl rfl rfl ⟨rfl, rfl, rfl, rfl, rfl⟩ rfl rfl rfl rfl rfl (by kernel_rfl) Try.func5 (by kernel_rfl)
    (of_decide_eq_true (by kernel_rfl)) (by unfold Func.isWrapper; first | (rw [if_pos (by decide +kernel)]; kernel_rfl) | (rw [if_neg (by decide +kernel)]; exact ⟨rfl, rfl⟩))
    (fun os started H enc _ => lifted os started H enc)

/-- ████ THE STATEMENT ████ -/
theorem proved : Rows.SumSealsSaid := over
#print axioms proved
end Go.Proofs.Ytonlcndljnfhgaa.sumSeals
