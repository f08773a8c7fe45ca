/- Proves 'WordPlainSaid': for every input the Go function WordPlain returns true, and each argument reads afterwards as it read before. Conditions: none beyond the row's own. -/
import Derived.Test.YtikgaknmmbmnoaaRows
import Derived.WalkKit
import Derived.ProofKit
import Derived.OpenShut
import Derived.ShutString
import Derived.SliceStrings
import Derived.ChangeOld
import Derived.Below
import Derived.Test.YtikgaknmmbmnoaaWrdW
namespace Go.Proofs.Ytikgaknmmbmnoaa.wordPlain
open Go.ChangeShapes Go.WideShapes Go.ChangeAt Go.RowKit
open Go.ChangeMaps (open_string shut_string)
set_option linter.unusedVariables false

theorem own : ownKnob Try.prog.godebug = none := by kernel_rfl
theorem laidOut : laidOutB Try.prog = true := by kernel_rfl

/-- WHAT THE WALK IS TOLD OF A SLICE OF INTEGERS THAT CAME IN: it is nil; or it leads to a row of 'cap' cells, the numbers 'zs' (the first 'len' are its elements, the rest its spare room), each fitting its kind. -/
def IsRow (k : IntKind) (w : World) (a : Option Addr) (len cap : Nat) (zs : List Int) : Prop :=
  (a = none ∧ len = 0 ∧ cap = 0 ∧ zs = []) ∨
  ∃ x, a = some x ∧ len ≤ cap ∧ cap ≤ maxLen ∧ zs.length = cap ∧ (∀ i, i < zs.length → w.cell? (x.add i) = some (.int k (zs.getD i 0))) ∧ ∀ n ∈ zs, (Lit.int k n).wf = true

theorem fine (l : List UInt8) (k : Nat) (h : k < (bs (Wrd.qt l)).size) : 33 ≤ ((bs (Wrd.qt l))[k].toNat : Int) ∧ ((bs (Wrd.qt l))[k].toNat : Int) ≤ 126 := by
  have hm : (bs (Wrd.qt l))[k] ∈ Wrd.qt l := by
    rw [← data_get (bs (Wrd.qt l)) k h]
    exact List.getElem_mem _
  have := Wrd.qt_fine l _ hm
  omega

/-! ### STEP 1: THE WALK: the Go text returns true, AND WRITES NOTHING THAT WAS THERE: 'Below w.heap.size w w'' (Derived/Below.lean: '.refl', '.alloc', '.drew', '.setCell' at a new block, '.trans'). Open each 'IsRow' by 'rcases' AHEAD of 'go_enter'; part every test ahead of the walk. -/
theorem walk (a0 : ByteArray) (a1 : ByteArray) (w : World) (w0 : a0.size ≤ maxLen) (w1 : a1.size ≤ maxLen) :
    Calls Try.prog 6 #[.string a0, .string a1] w fun e w' => e = .returned (.bool true) ∧ Below w.heap.size w w' := by
  by_cases h0 : 2000 < a0.size
  · have f0 : (2000 : Int) < a0.size := by omega
    go_enter Try.func6, Try.ntmps6
    go_wp2_with fail
    refine (heads _).mono ?_
    rintro e w' ⟨rfl, b⟩
    go_wp2_with fail
    go_ret
    exact ⟨rfl, b⟩
  · have f0 : ¬ (2000 : Int) < a0.size := by omega
    by_cases h1 : 2000 < a1.size
    · have f1 : (2000 : Int) < a1.size := by omega
      go_enter Try.func6, Try.ntmps6
      go_wp2_with fail
      refine (heads _).mono ?_
      rintro e w' ⟨rfl, b⟩
      go_wp2_with fail
      go_ret
      exact ⟨rfl, b⟩
    · have f1 : ¬ (2000 : Int) < a1.size := by omega
      have Hq := hid (fun w => p_Quote a0 (by omega) w)
      have Hs := hid (fun w => p_Quote a1 (by omega) w)
      have Hf := hid (fine a0.data.toList)
      have hsz : (bs (Wrd.qt a0.data.toList)).size ≤ 10000 := by
        have := (Wrd.qt_len a0.data.toList).2
        rw [bs_size]
        rw [data_len] at this
        omega
      have e0 : ¬ (bs (Wrd.qt a0.data.toList)).toList = [] := by rw [list_of, bs_data]; exact Wrd.qt_ne _
      have e0' : (bs (Wrd.qt a0.data.toList)).toList.isEmpty = false := by rw [List.isEmpty_eq_false_iff]; exact e0
      have hcase : a0 = a1 ∨ ((a0.toList == a1.toList) = false ∧ ((bs (Wrd.qt a0.data.toList)).toList == (bs (Wrd.qt a1.data.toList)).toList) = false) := by
        by_cases h : a0 = a1
        · exact .inl h
        · right
          have hne : a0.data.toList ≠ a1.data.toList := fun e => h (by rw [← of_bs a0, e, of_bs])
          refine ⟨by rw [beq_eq_false_iff_ne, list_of, list_of]; exact hne, ?_⟩
          rw [beq_eq_false_iff_ne, list_of, list_of, bs_data, bs_data]
          exact fun e => hne (Wrd.qt_inj _ _ e)
      unfold QtRet txt at Hq Hs
      rcases hcase with rfl | ⟨g1, g2⟩
      · generalize bs (Wrd.qt a0.data.toList) = q at *
        go_enter Try.func6, Try.ntmps6
        go_wp2_with fail
        refine (Hq.out _).mono ?_
        rintro e w1 ⟨rfl, b1⟩
        go_wp2_with fail
        go_loop [6] (fun i => ∃ k : Nat, i = .int .i64 k ∧ k ≤ q.size) (fun i => q.size - (intOf i).toNat)
        case atStart => exact ⟨0, rfl, Nat.zero_le _⟩
        case round =>
          obtain ⟨k, rfl, hk⟩ := hrel
          by_cases hlt : k < q.size
          · obtain ⟨g3, g4⟩ := Hf.out k hlt
            go_wp2_with fail
            go_round
            case rel => exact ⟨k + 1, by go_num, by omega⟩
            case measure => simp [intOf]; omega
          · go_wp2_with fail
            refine (Hs.out _).mono ?_
            rintro e w2 ⟨rfl, b2⟩
            go_wp2_with fail
            refine (heads _).mono ?_
            rintro e w3 ⟨rfl, b3⟩
            go_wp2_with fail
            go_ret
            exact ⟨rfl, below3 b1 b2 b3⟩
      · generalize bs (Wrd.qt a0.data.toList) = q at *
        generalize bs (Wrd.qt a1.data.toList) = r at *
        go_enter Try.func6, Try.ntmps6
        go_wp2_with fail
        refine (Hq.out _).mono ?_
        rintro e w1 ⟨rfl, b1⟩
        go_wp2_with fail
        go_loop [6] (fun i => ∃ k : Nat, i = .int .i64 k ∧ k ≤ q.size) (fun i => q.size - (intOf i).toNat)
        case atStart => exact ⟨0, rfl, Nat.zero_le _⟩
        case round =>
          obtain ⟨k, rfl, hk⟩ := hrel
          by_cases hlt : k < q.size
          · obtain ⟨g3, g4⟩ := Hf.out k hlt
            go_wp2_with fail
            go_round
            case rel => exact ⟨k + 1, by go_num, by omega⟩
            case measure => simp [intOf]; omega
          · go_wp2_with fail
            refine (Hs.out _).mono ?_
            rintro e w2 ⟨rfl, b2⟩
            go_wp2_with fail
            refine (heads _).mono ?_
            rintro e w3 ⟨rfl, b3⟩
            go_wp2_with fail
            go_ret
            exact ⟨rfl, below3 b1 b2 b3⟩

/-! ### THE ROW's STEP: WRITTEN OUT: LEAVE IT -/
set_option maxRecDepth 100000 in
theorem lifted (os : Os) (started : os.Started) (H : Type) (enc : TypeId × Value → H) :
    ReturnsInHanded {} Try.checked os 6 .any (Rows.wordPlainSpec.pre6 enc Try.prog Try.f6 Rows.wordPlainRow.domain false) (Rows.wordPlainSpec.post enc Try.prog Try.f6 false true false false) := by
  refine returnsInHanded_of_change (C := Try.checked) own started (by kernel_rfl) Try.func6
    (ChangeSpec.witness6 (enc := enc) (C := Try.checked) false ⟨#[], #[.string ByteArray.empty, .string ByteArray.empty], []⟩ 8 (by kernel_rfl) (by kernel_rfl) (by kernel_rfl) (by kernel_rfl)) ?_
  intro W base args ds gs before hval0 hW hcnd _
  have hval : ∀ (j : Nat) t v, Try.f6.params[j]? = some t → args[j]? = some v → Value.okWide Try.prog W .any base t v := hval0
  have hW' := hW
  obtain ⟨p, q, hA0, hV, rfl, hfz, hnd⟩ := hW
  have hA : DataW.TrodAll enc Try.prog W 0 (fun _ => true) true Try.f6.params.toList args.toList ds p := hA0
  rw [Try.params6] at hA hval
  obtain ⟨v0, vs0, d0, ds0, p0, q0, hargs, rfl, rfl, h0, r0⟩ := trodAll_cons hA
  obtain ⟨v1, vs1, d1, ds1, p1, q1, rfl, rfl, rfl, h1, r1⟩ := trodAll_cons r0
  obtain ⟨rfl, rfl, rfl⟩ := trodAll_nil r1
  obtain rfl : args = #[v0, v1] := by cases args; simp_all
  obtain ⟨rfl, rfl⟩ := trodVars_none hV
  obtain ⟨a0, rfl, rfl, rfl, w0⟩ := open_string Try.underlying9 (hval 0 9 v0 rfl rfl) h0
  obtain ⟨a1, rfl, rfl, rfl, w1⟩ := open_string Try.underlying9 (hval 1 9 v1 rfl rfl) h1
  clear hA0 hval0
  refine (walk a0 a1 W w0 w1).mono fun e W' ⟨he, bel⟩ => ?_
  subst he
  exact ⟨_, rfl, _, _, _, [], _, [], hW', trodAll_mk1 (shut_bool Try.underlying4 _), (trodAll_cons_mk (shut_string Try.underlying9 w0) (trodAll_cons_mk (shut_string Try.underlying9 w1) trodAll_mk0)), rfl, bel.frame _, fun h => by cases h⟩

theorem over : Rows.wordPlainRow.holds Try.pinned (OpenSpec.ofChange Rows.wordPlainSpec) :=
  OpenClaim.holds_of_wide 6 Try.f6 rfl rfl rfl rfl rfl rfl rfl ⟨rfl, rfl, rfl, rfl, rfl⟩ rfl rfl rfl rfl rfl (by kernel_rfl) Try.func6 (by kernel_rfl)
    (of_decide_eq_true (by kernel_rfl)) (by unfold Func.isWrapper; first | (rw [if_pos (by decide +kernel)]; kernel_rfl) | (rw [if_neg (by decide +kernel)]; exact ⟨rfl, rfl⟩))
    (fun os started H enc _ => lifted os started H enc)

/-- ████ THE STATEMENT ████ -/
theorem proved : Rows.WordPlainSaid := over
#print axioms proved
end Go.Proofs.Ytikgaknmmbmnoaa.wordPlain
