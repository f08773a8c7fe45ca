/- Proves 'WordSplitsSaid': for every input the Go function WordSplits returns true, and each argument reads afterwards as it read before. Conditions: none beyond the row's own. -/
import Derived.Test.YtikgaknmmbmnoaaRows
import Derived.WalkKit
import Derived.ProofKit
import Derived.OpenShut
import Derived.ShutString
import Derived.SliceStrings
import Derived.ChangeOld
import Derived.Below
import Derived.Test.YtikgaknmmbmnoaaWrdW
namespace Go.Proofs.Ytikgaknmmbmnoaa.wordSplits
open Go.ChangeShapes Go.WideShapes Go.ChangeAt Go.RowKit
open Go.ChangeMaps (open_string shut_string)
set_option linter.unusedVariables false

theorem own : ownKnob Try.prog.godebug = none := by kernel_rfl
theorem laidOut : laidOutB Try.prog = true := by kernel_rfl

/-- WHAT THE WALK IS TOLD OF A SLICE OF INTEGERS THAT CAME IN: it is nil; or it leads to a row of 'cap' cells, the numbers 'zs' (the first 'len' are its elements, the rest its spare room), each fitting its kind. -/
def IsRow (k : IntKind) (w : World) (a : Option Addr) (len cap : Nat) (zs : List Int) : Prop :=
  (a = none ∧ len = 0 ∧ cap = 0 ∧ zs = []) ∨
  ∃ x, a = some x ∧ len ≤ cap ∧ cap ≤ maxLen ∧ zs.length = cap ∧ (∀ i, i < zs.length → w.cell? (x.add i) = some (.int k (zs.getD i 0))) ∧ ∀ n ∈ zs, (Lit.int k n).wf = true

/-! ### STEP 1: THE WALK: the Go text returns true, AND WRITES NOTHING THAT WAS THERE: 'Below w.heap.size w w'' (Derived/Below.lean: '.refl', '.alloc', '.drew', '.setCell' at a new block, '.trans'). Open each 'IsRow' by 'rcases' AHEAD of 'go_enter'; part every test ahead of the walk. -/
theorem walk (a0 : Option Addr) (len0 cap0 : Nat) (z0 : List ByteArray) (a1 : ByteArray) (w : World) (w0 : IsRowS w a0 len0 cap0 z0) (w1 : a1.size ≤ maxLen) :
    Calls Try.prog 5 #[.slice a0 len0 cap0, .string a1] w fun e w' => e = .returned (.bool true) ∧ Below w.heap.size w w' := by
  obtain ⟨ls, rfl, hS, hm, hz⟩ := w0.open_
  clear w0
  have Hfew := hid (fun (w' : World) (h : Strs w' w.heap.size a0 ls) => p_few a0 cap0 ls w' _ h hm hz)
  unfold BoolRet at Hfew
  have HS := hid hS
  cases hf : fewB ls with
  | false =>
    rw [hf] at Hfew
    clear hf hS hz
    go_enter Try.func5, Try.ntmps5
    go_wp2_with fail
    refine (Hfew.out _ HS.out).mono ?_
    rintro e w' ⟨rfl, rfl⟩
    go_wp2_with fail
    refine (heads _).mono ?_
    rintro e w' ⟨rfl, b⟩
    go_wp2_with fail
    go_ret
    exact ⟨rfl, b⟩
  | true =>
    obtain ⟨k1, k2⟩ := fewB_yes hf
    rw [hf] at Hfew
    clear hf hS hz
    by_cases h1 : 3000 < a1.size
    · have f1 : (3000 : Int) < a1.size := by omega
      clear k2
      go_enter Try.func5, Try.ntmps5
      go_wp2_with fail
      refine (Hfew.out _ HS.out).mono ?_
      rintro e w' ⟨rfl, rfl⟩
      go_wp2_with fail
      refine (heads _).mono ?_
      rintro e w' ⟨rfl, b⟩
      go_wp2_with fail
      go_ret
      exact ⟨rfl, b⟩
    · have f1 : ¬ (3000 : Int) < a1.size := by omega
      have Hp := hid (fun w => p_Split a1 (by omega) w)
      have Hr := hid (fun w => r_Split a1 (by omega) w)
      have hsl := Wrd.spl_le a1.data.toList
      rw [data_len] at hsl
      have Hj := hid (fun (w' : World) (h : Strs w' w'.heap.size a0 ls) => p_Join a0 cap0 ls w' h k1 k2)
      have Hk := hid (fun (w' : World) (B : Nat) (h : Strs w' B a0 ls) => r_Join a0 cap0 ls B w' h k1 k2)
      unfold SplRet at Hp Hr
      unfold JnRet at Hj
      unfold JnDraw at Hk
      generalize Wrd.spl a1.data.toList = r at *
      obtain ⟨ms, x, y⟩ := r
      simp only [] at Hp Hr hsl
      generalize Wrd.jn ls = j at *
      clear k2
      go_enter Try.func5, Try.ntmps5
      go_wp2_with fail
      refine (Hfew.out _ HS.out).mono ?_
      rintro e w' ⟨rfl, rfl⟩
      go_wp2_with fail
      refine (Hp.out _).mono ?_
      rintro e w1 ⟨A1, c1, rfl, s1, b1⟩
      have S1 := hid s1
      clear s1
      go_wp2_with fail
      refine (Hr.out _).mono ?_
      rintro e w2 ⟨A2, c2, rfl, s2, b2⟩
      have S2 := hid s2
      clear s2
      have hS2 := (HS.out.below (below2 b1 b2) (Nat.le_refl _))
      go_wp2_with fail
      refine (Hj.out _ (hS2.more (below2 b1 b2).size)).mono ?_
      rintro e w3 ⟨rfl, b3⟩
      have hS3 := hS2.below b3 (below2 b1 b2).size
      go_wp2_with fail
      refine (Hk.out _ _ hS3).mono ?_
      rintro e w4 ⟨rfl, m, rfl⟩
      have b4 := below_drewN b3 m
      have hs := p_Same A1 A2 c1 c2 ms ms (w3.drewN m) _ _ (S1.out.below (below2 b2 b4) (Nat.le_refl _)) (S2.out.below b4 (Nat.le_refl _)) (by unfold maxLen; omega) (by unfold maxLen; omega)
      unfold BoolDraw at hs
      rw [show decide (ms = ms) = true from decide_eq_true rfl] at hs
      have Hs := hid hs
      clear hs hS2 hS3
      go_wp2_with fail
      refine (Hs.out).mono ?_
      rintro e w5 ⟨rfl, m5, rfl⟩
      go_wp2_with fail
      refine (heads _).mono ?_
      rintro e w6 ⟨rfl, b6⟩
      go_wp2_with fail
      go_ret
      exact ⟨rfl, below4 b1 b2 (below_drewN b3 (m + m5)) b6⟩

/-! ### THE ROW's STEP: WRITTEN OUT: LEAVE IT -/
set_option maxRecDepth 100000 in
theorem lifted (os : Os) (started : os.Started) (H : Type) (enc : TypeId × Value → H) :
    ReturnsInHanded {} Try.checked os 5 .any (Rows.wordSplitsSpec.pre6 enc Try.prog Try.f5 Rows.wordSplitsRow.domain false) (Rows.wordSplitsSpec.post enc Try.prog Try.f5 false true false false) := by
  refine returnsInHanded_of_change (C := Try.checked) own started (by kernel_rfl) Try.func5
    (ChangeSpec.witness6 (enc := enc) (C := Try.checked) false ⟨#[], #[.slice none 0 0, .string ByteArray.empty], []⟩ 8 (by kernel_rfl) (by kernel_rfl) (by kernel_rfl) (by kernel_rfl)) ?_
  intro W base args ds gs before hval0 hW hcnd _
  have hval : ∀ (j : Nat) t v, Try.f5.params[j]? = some t → args[j]? = some v → Value.okWide Try.prog W .any base t v := hval0
  have hW' := hW
  obtain ⟨p, q, hA0, hV, rfl, hfz, hnd⟩ := hW
  have hA : DataW.TrodAll enc Try.prog W 0 (fun _ => true) true Try.f5.params.toList args.toList ds p := hA0
  rw [Try.params5] at hA hval
  obtain ⟨v0, vs0, d0, ds0, p0, q0, hargs, rfl, rfl, h0, r0⟩ := trodAll_cons hA
  obtain ⟨v1, vs1, d1, ds1, p1, q1, rfl, rfl, rfl, h1, r1⟩ := trodAll_cons r0
  obtain ⟨rfl, rfl, rfl⟩ := trodAll_nil r1
  obtain rfl : args = #[v0, v1] := by cases args; simp_all
  obtain ⟨rfl, rfl⟩ := trodVars_none hV
  obtain ⟨a0, len0, cap0, rfl⟩ := okWide_slice Try.underlying22 (hval 0 22 v0 rfl rfl)
  have k0 := h0
  have lt0 : ∀ x ∈ p0, x.block < W.heap.size := by obtain ⟨m, hm⟩ := k0; exact DataW.trod_lt m _ _ _ hm
  obtain ⟨z0, w0⟩ : ∃ zs, IsRowS W a0 len0 cap0 zs := by
    obtain ⟨fuel, hf⟩ := h0
    rcases open_strings Try.underlying22 Try.underlying9 (by kernel_rfl) hf with ⟨hcs, _⟩ | ⟨x, l, c, zs, hcs, _, hl, hm, hz, _, hcell, hwz⟩
    · simp [Value.cells] at hcs
      obtain ⟨rfl, rfl, rfl⟩ := hcs
      exact ⟨[], .inl ⟨rfl, rfl, rfl, rfl⟩⟩
    · simp [Value.cells] at hcs
      obtain ⟨rfl, rfl, rfl⟩ := hcs
      exact ⟨zs, .inr ⟨_, rfl, hl, hm, by simpa using hz, hcell, hwz⟩⟩
  obtain ⟨a1, rfl, rfl, rfl, w1⟩ := open_string Try.underlying9 (hval 1 9 v1 rfl rfl) h1
  clear hA0 hval0
  refine (walk a0 len0 cap0 z0 a1 W w0 w1).mono fun e W' ⟨he, bel⟩ => ?_
  subst he
  exact ⟨_, rfl, _, _, _, [], _, [], hW', trodAll_mk1 (shut_bool Try.underlying4 _), (trodAll_cons_mk (Below.trod laidOut (by kernel_rfl) (of_decide_eq_true (by kernel_rfl)) k0 bel lt0) (trodAll_cons_mk (shut_string Try.underlying9 w1) trodAll_mk0)), rfl, bel.frame _, fun h => by cases h⟩

theorem over : Rows.wordSplitsRow.holds Try.pinned (OpenSpec.ofChange Rows.wordSplitsSpec) :=
  OpenClaim.holds_of_wide 5 Try.f5 rfl rfl rfl rfl rfl rfl rfl ⟨rfl, rfl, rfl, rfl, rfl⟩ rfl rfl rfl rfl rfl (by kernel_rfl) Try.func5 (by kernel_rfl)
    (of_decide_eq_true (by kernel_rfl)) (by unfold Func.isWrapper; first | (rw [if_pos (by decide +kernel)]; kernel_rfl) | (rw [if_neg (by decide +kernel)]; exact ⟨rfl, rfl⟩))
    (fun os started H enc _ => lifted os started H enc)

/-- ████ THE STATEMENT ████ -/
theorem proved : Rows.WordSplitsSaid := over
#print axioms proved
end Go.Proofs.Ytikgaknmmbmnoaa.wordSplits
