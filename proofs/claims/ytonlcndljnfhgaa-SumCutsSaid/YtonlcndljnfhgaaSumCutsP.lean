/- Proves 'SumCutsSaid': for every input the Go function SumCuts returns true, and each argument reads afterwards as it read before. Conditions: none beyond the row's own. -/
import Derived.Test.YtonlcndljnfhgaaRows
import Derived.WalkKit
import Derived.ProofKit
import Derived.OpenShut
import Derived.ShutString
import Derived.SliceStrings
import Derived.ChangeOld
import Derived.Below
import Derived.Test.YtonlcndljnfhgaaSumH
namespace Go.Proofs.Ytonlcndljnfhgaa.sumCuts
open Go.ChangeShapes Go.WideShapes Go.ChangeAt Go.RowKit
open Go.ChangeMaps (open_string shut_string)
set_option linter.unusedVariables false

theorem own : ownKnob Try.prog.godebug = none := by kernel_rfl
theorem laidOut : laidOutB Try.prog = true := by kernel_rfl

/-- WHAT THE WALK IS TOLD OF A SLICE OF INTEGERS THAT CAME IN: it is nil; or it leads to a row of 'cap' cells, the numbers 'zs' (the first 'len' are its elements, the rest its spare room), each fitting its kind. -/
def IsRow (k : IntKind) (w : World) (a : Option Addr) (len cap : Nat) (zs : List Int) : Prop :=
  (a = none ∧ len = 0 ∧ cap = 0 ∧ zs = []) ∨
  ∃ x, a = some x ∧ len ≤ cap ∧ cap ≤ maxLen ∧ zs.length = cap ∧ (∀ i, i < zs.length → w.cell? (x.add i) = some (.int k (zs.getD i 0))) ∧ ∀ n ∈ zs, (Lit.int k n).wf = true

/-! ### STEP 1: THE WALK: the Go text returns true, AND WRITES NOTHING THAT WAS THERE: 'Below w.heap.size w w'' (Derived/Below.lean: '.refl', '.alloc', '.drew', '.setCell' at a new block, '.trans'). Open each 'IsRow' by 'rcases' AHEAD of 'go_enter'; part every test ahead of the walk. -/
set_option maxHeartbeats 400000 in
theorem walk (a0 : Option Addr) (len0 cap0 : Nat) (z0 : List Int) (a1 : Int) (w : World) (w0 : IsRow .u8 w a0 len0 cap0 z0) (w1 : (Lit.int .i64 a1).wf = true) :
    Calls Try.prog 8 #[.slice a0 len0 cap0, .int .i64 a1] w fun e w' => e = .returned (.bool true) ∧ Below w.heap.size w w' := by
  obtain ⟨b, hl, hbyt, hlc, hcm⟩ := open_byt w0
  obtain ⟨k1, k2⟩ := bounds_i64 w1
  clear w0
  by_cases hbig : 3000 < len0
  · have hbig' : (3000 : Int) < len0 := by omega
    go_enter Try.func8, Try.ntmps8
    go_wp2_with fail
    refine (heads _).mono ?_
    rintro e w' ⟨rfl, b⟩
    go_wp2_with fail
    go_ret
    exact ⟨rfl, b⟩
  have hbig' : ¬ (3000 : Int) < len0 := by omega
  by_cases hneg : a1 < 0
  · go_enter Try.func8, Try.ntmps8
    go_wp2_with fail
    refine (heads _).mono ?_
    rintro e w' ⟨rfl, b⟩
    go_wp2_with fail
    go_ret
    exact ⟨rfl, b⟩
  obtain ⟨k, rfl⟩ := Int.eq_ofNat_of_zero_le (show 0 ≤ a1 by omega)
  by_cases hgt : (len0 : Int) < k
  · go_enter Try.func8, Try.ntmps8
    go_wp2_with fail
    refine (heads _).mono ?_
    rintro e w' ⟨rfl, b⟩
    go_wp2_with fail
    go_ret
    exact ⟨rfl, b⟩
  have f1 : (0 : Int) ≤ k := by omega
  have f2 : (k : Int) ≤ len0 := by omega
  have f3 : (k : Int) ≤ cap0 := by omega
  have hkl : (b.take k).length = k := by rw [List.length_take]; omega
  have hdl : (b.drop k).length = len0 - k := by rw [List.length_drop, hl]
  have C1 : Hid (∀ (m : Nat), m ≤ len0 → ∀ w', Below w.heap.size w w' → Calls Try.prog 15 #[.slice a0 m cap0] w' (IntRet .u32 (Sum.crc (b.take m)) w')) := fun m hm w' hb => p_Crc a0 m cap0 (b.take m) (by rw [List.length_take]; omega) (by omega) _ w' (Byt.pre (hbyt.below hb (Nat.le_refl _)) m)
  have C3 : Hid (∀ w', Below w.heap.size w w' → Calls Try.prog 17 #[.int .u32 (Sum.crc (b.take k) : Nat), .slice (if cap0 = k then a0 else a0.map (fun x => x.add k)) (len0 - k) (cap0 - k)] w' (IntRet .u32 (Sum.crc (b.take len0)) w')) := fun w' hb => by
    have hp := Byt.part (hbyt.below hb (Nat.le_refl _)) k len0 cap0 hlc
    rw [Nat.mul_one, List.take_of_length_le (by rw [hdl]; exact Nat.le_refl _)] at hp
    have := p_More (Sum.crc (b.take k)) (Sum.crc_lt _) (if cap0 = k then a0 else a0.map (fun x => x.add k)) (len0 - k) (cap0 - k) (b.drop k) hdl (by omega) _ w' hp
    have e : Sum.crc b = Sum.crc (b.take len0) := by rw [List.take_of_length_le (by omega)]
    rw [Sum.more_crc, List.take_append_drop, e] at this
    exact this
  unfold IntRet at C1 C3
  obtain ⟨g, hg⟩ : ∃ g : Nat → Nat, ∀ m, Sum.crc (b.take m) = g m := ⟨fun m => Sum.crc (b.take m), fun _ => rfl⟩
  simp only [hg] at C1 C3
  clear hg
  have bd := (Below.refl w.heap.size w).drew
  clear hbyt
  by_cases hck : cap0 = k
  · rw [if_pos hck] at C3
    have hlk : len0 = k := by omega
    subst hck
    subst hlk
    rw [Nat.sub_self] at C3
    go_enter Try.func8, Try.ntmps8
    go_wp2_with fail
    go_region_held3 (fun _ => True) (trivial) (first
      | (go_at_call 15; refine (C1.out _ (by omega) _ bd).mono ?_; rintro e w' ⟨rfl, rfl⟩)
      | (go_at_call 17; refine (C3.out _ bd).mono ?_; rintro e w' ⟨rfl, rfl⟩)
      | (go_at_call 9; refine (heads _).mono ?_; rintro e w2 ⟨rfl, b2⟩))
    all_goals
      go_wp2_with fail
      go_ret
      exact ⟨rfl, below2 bd b2⟩
  · rw [if_neg hck] at C3
    go_enter Try.func8, Try.ntmps8
    go_wp2_with fail
    go_region_held3 (fun _ => True) (trivial) (first
      | (go_at_call 15; refine (C1.out _ (by omega) _ bd).mono ?_; rintro e w' ⟨rfl, rfl⟩)
      | (go_at_call 17; refine (C3.out _ bd).mono ?_; rintro e w' ⟨rfl, rfl⟩)
      | (go_at_call 9; refine (heads _).mono ?_; rintro e w2 ⟨rfl, b2⟩))
    all_goals
      go_wp2_with fail
      go_ret
      exact ⟨rfl, below2 bd b2⟩

/-! ### THE ROW's STEP: WRITTEN OUT: LEAVE IT -/
set_option maxRecDepth 100000 in
theorem lifted (os : Os) (started : os.Started) (H : Type) (enc : TypeId × Value → H) :
    ReturnsInHanded {} Try.checked os 8 .any (Rows.sumCutsSpec.pre6 enc Try.prog Try.f8 Rows.sumCutsRow.domain false) (Rows.sumCutsSpec.post enc Try.prog Try.f8 false true false false) := by
  refine returnsInHanded_of_change (C := Try.checked) own started (by kernel_rfl) Try.func8
    (ChangeSpec.witness6 (enc := enc) (C := Try.checked) false ⟨#[], #[.slice none 0 0, .int .i64 0], []⟩ 8 (by kernel_rfl) (by kernel_rfl) (by kernel_rfl) (by kernel_rfl)) ?_
  intro W base args ds gs before hval0 hW hcnd _
  have hval : ∀ (j : Nat) t v, Try.f8.params[j]? = some t → args[j]? = some v → Value.okWide Try.prog W .any base t v := hval0
  have hW' := hW
  obtain ⟨p, q, hA0, hV, rfl, hfz, hnd⟩ := hW
  have hA : DataW.TrodAll enc Try.prog W 0 (fun _ => true) true Try.f8.params.toList args.toList ds p := hA0
  rw [Try.params8] at hA hval
  obtain ⟨v0, vs0, d0, ds0, p0, q0, hargs, rfl, rfl, h0, r0⟩ := trodAll_cons hA
  obtain ⟨v1, vs1, d1, ds1, p1, q1, rfl, rfl, rfl, h1, r1⟩ := trodAll_cons r0
  obtain ⟨rfl, rfl, rfl⟩ := trodAll_nil r1
  obtain rfl : args = #[v0, v1] := by cases args; simp_all
  obtain ⟨rfl, rfl⟩ := trodVars_none hV
  obtain ⟨a0, len0, cap0, rfl⟩ := okWide_slice Try.underlying22 (hval 0 22 v0 rfl rfl)
  have k0 := h0
  have lt0 : ∀ x ∈ p0, x.block < W.heap.size := by obtain ⟨m, hm⟩ := k0; exact DataW.trod_lt m _ _ _ hm
  obtain ⟨z0, w0⟩ : ∃ zs, IsRow .u8 W a0 len0 cap0 zs := by
    obtain ⟨fuel, hf⟩ := h0
    rcases open_ints Try.underlying22 Try.underlying5 (by kernel_rfl) hf with ⟨hcs, _⟩ | ⟨x, l, c, zs, hcs, _, hl, hm, hz, _, hcell, hwz⟩
    · simp [Value.cells] at hcs
      obtain ⟨rfl, rfl, rfl⟩ := hcs
      exact ⟨[], .inl ⟨rfl, rfl, rfl, rfl⟩⟩
    · simp [Value.cells] at hcs
      obtain ⟨rfl, rfl, rfl⟩ := hcs
      exact ⟨zs, .inr ⟨_, rfl, hl, hm, by simpa using hz, hcell, hwz⟩⟩
  obtain ⟨a1, rfl, rfl, rfl, w1⟩ := open_int Try.underlying3 (hval 1 3 v1 rfl rfl) h1
  clear hA0 hval0
  refine (walk a0 len0 cap0 z0 a1 W w0 w1).mono fun e W' ⟨he, bel⟩ => ?_
  subst he
  exact ⟨_, rfl, _, _, _, [], _, [], hW', trodAll_mk1 (shut_bool Try.underlying4 _), (trodAll_cons_mk (Below.trod laidOut (by kernel_rfl) (of_decide_eq_true (by kernel_rfl)) k0 bel lt0) (trodAll_cons_mk (shut_int Try.underlying3 w1) trodAll_mk0)), rfl, bel.frame _, fun h => by cases h⟩

theorem over : Rows.sumCutsRow.holds Try.pinned (OpenSpec.ofChange Rows.sumCutsSpec) :=
  OpenClaim.holds_of_wide 8 Try.f8 rfl rfl rfl rfl rfl rfl rfl ⟨rfl, rfl, rfl, rfl, rfl⟩ rfl rfl rfl rfl rfl (by kernel_rfl) Try.func8 (by kernel_rfl)
    (of_decide_eq_true (by kernel_rfl)) (by unfold Func.isWrapper; first | (rw [if_pos (by decide +kernel)]; kernel_rfl) | (rw [if_neg (by decide +kernel)]; exact ⟨rfl, rfl⟩))
    (fun os started H enc _ => lifted os started H enc)

/-- ████ THE STATEMENT ████ -/
theorem proved : Rows.SumCutsSaid := over
#print axioms proved
end Go.Proofs.Ytonlcndljnfhgaa.sumCuts
