/- Proves 'BitsSetsSaid': for every input the Go function BitsSets returns true, and each argument reads afterwards as it read before. Conditions: none beyond the row's own. -/
import Derived.Test.YteejccppdmjlaaaRows
import Derived.WalkKit
import Derived.ProofKit
import Derived.OpenShut
import Derived.ShutString
import Derived.SliceStrings
import Derived.ChangeOld
import Derived.Below
import Derived.Test.YteejccppdmjlaaaSetH
namespace Go.Proofs.Yteejccppdmjlaaa.bitsSets
open Go.ChangeShapes Go.WideShapes Go.ChangeAt Go.RowKit
open Go.ChangeMaps (open_string shut_string)
set_option linter.unusedVariables false

theorem own : ownKnob Try.prog.godebug = none := by kernel_rfl
theorem laidOut : laidOutB Try.prog = true := by kernel_rfl

/-- WHAT THE WALK IS TOLD OF A SLICE OF INTEGERS THAT CAME IN: it is nil; or it leads to a row of 'cap' cells, the numbers 'zs' (the first 'len' are its elements, the rest its spare room), each fitting its kind. -/
def IsRow (k : IntKind) (w : World) (a : Option Addr) (len cap : Nat) (zs : List Int) : Prop :=
  (a = none ∧ len = 0 ∧ cap = 0 ∧ zs = []) ∨
  ∃ x, a = some x ∧ len ≤ cap ∧ cap ≤ maxLen ∧ zs.length = cap ∧ (∀ i, i < zs.length → w.cell? (x.add i) = some (.int k (zs.getD i 0))) ∧ ∀ n ∈ zs, (Lit.int k n).wf = true

/-! ### STEP 1: THE WALK: the Go text returns true, AND WRITES NOTHING THAT WAS THERE: 'Below w.heap.size w w'' (Derived/Below.lean: '.refl', '.alloc', '.drew', '.setCell' at a new block, '.trans'). Open each 'IsRow' by 'rcases' AHEAD of 'go_enter'; part every test ahead of the walk. -/
set_option maxHeartbeats 16000000 in
theorem walk (a0 : Option Addr) (len0 cap0 : Nat) (z0 : List Int) (a1 : Option Addr) (len1 cap1 : Nat) (z1 : List Int) (a2 : Int) (a3 : Int) (w : World) (w0 : IsRow .u64 w a0 len0 cap0 z0) (w1 : IsRow .u64 w a1 len1 cap1 z1) (w2 : (Lit.int .i64 a2).wf = true) (w3 : (Lit.int .i64 a3).wf = true) :
    Calls Try.prog 3 #[.slice a0 len0 cap0, .slice a1 len1 cap1, .int .i64 a2, .int .i64 a3] w fun e w' => e = .returned (.bool true) ∧ Below w.heap.size w w' := by
  obtain ⟨s, hl, hu, hlc, hcm, hok⟩ := open_us w0
  obtain ⟨t, hl', hu', hlc', hcm', hok'⟩ := open_us w1
  obtain ⟨k1, k2⟩ := bounds_i64 w2
  obtain ⟨k3, k4⟩ := bounds_i64 w3
  clear w0 w1 w2 w3
  have F := hid (fun w => p_few a0 a1 len0 len1 cap0 cap1 w)
  unfold BoolRet at F
  by_cases hf : len0 ≤ 70 ∧ len1 ≤ 70
  case neg =>
    rw [decide_eq_false hf] at F
    clear hf
    go_enter Try.func3, Try.ntmps3
    go_wp2_with fail
    refine (F.out _).mono ?_
    rintro e w' ⟨rfl, rfl⟩
    go_wp2_with fail
    refine (heads _).mono ?_
    rintro e w' ⟨rfl, b⟩
    go_wp2_with fail
    go_ret
    exact ⟨rfl, b⟩
  rw [decide_eq_true hf] at F
  obtain ⟨hf1, hf2⟩ := hf
  have HB := hid (fun (w' : World) (hb : Below w.heap.size w w') => hu.below hb (Nat.le_refl _))
  have HB' := hid (fun (w' : World) (hb : Below w.heap.size w w') => hu'.below hb (Nat.le_refl _))
  have hi2 : I64 a2 := by unfold I64; omega
  have hi3 : I64 a3 := by unfold I64; omega
  have e1 : (decide (0 ≤ a2) && (Bst.mem s a2.toNat && Bst.mem t a2.toNat)) = (Bst.memI s a2 && Bst.memI t a2) := by unfold Bst.memI; cases decide (0 ≤ a2) <;> simp
  have e2 : (decide (0 ≤ a2) && (Bst.mem s a2.toNat || Bst.mem t a2.toNat)) = (Bst.memI s a2 || Bst.memI t a2) := by unfold Bst.memI; cases decide (0 ≤ a2) <;> simp
  have e3 : (decide (0 ≤ a2) && (Bst.mem s a2.toNat && !Bst.mem t a2.toNat)) = (Bst.memI s a2 && !Bst.memI t a2) := by unfold Bst.memI; cases decide (0 ≤ a2) <;> simp
  have e4 : (decide (0 ≤ a2) && pWith s a3 a2.toNat) = (Bst.memI s a2 || (decide (0 ≤ a2) && decide (a2 < 4096) && decide (a2 = a3))) := by
    unfold pWith Bst.memI
    by_cases h0 : 0 ≤ a2
    · rw [decide_eq_true h0, Int.toNat_of_nonneg h0, Bool.true_and, Bool.true_and, Bool.true_and]
      by_cases he : a2 = a3
      · subst he
        congr 2
        rw [decide_eq_decide]
        omega
      · rw [decide_eq_false he, Bool.and_false, Bool.and_false]
    · rw [decide_eq_false h0]; rfl
  have e5 : (decide (0 ≤ a2) && pWithout s a3 a2.toNat) = (Bst.memI s a2 && !decide (a2 = a3)) := by
    unfold pWithout Bst.memI
    by_cases h0 : 0 ≤ a2
    · rw [decide_eq_true h0, Int.toNat_of_nonneg h0, Bool.true_and, Bool.true_and]
    · rw [decide_eq_false h0]; rfl
  have C1 := hid (p_Has a0 len0 cap0 s hl (by omega) hok a2 hi2 _ w hu)
  have C2 := hid (p_Has a1 len1 cap1 t hl' (by omega) hok' a2 hi2 _ w hu')
  have D1 := hid (fun (w' : World) (hb : Below w.heap.size w w') => (p_And a0 len0 cap0 a1 len1 cap1 s t hl hl' (by omega) (by omega) hok hok' _ w' hb.size (HB.out w' hb) (HB'.out w' hb)).mono fun _ _ h => h.has (fun j hj => by rw [Bool.and_eq_true] at hj; exact mem_lt' hl (by omega) hj.1) a2 hi2 _ e1)
  have D2 := hid (fun (w' : World) (hb : Below w.heap.size w w') => (p_Or a0 len0 cap0 a1 len1 cap1 s t hl hl' (by omega) (by omega) hok hok' _ w' hb.size (HB.out w' hb) (HB'.out w' hb)).mono fun _ _ h => h.has (fun j hj => by rw [Bool.or_eq_true] at hj; exact hj.elim (mem_lt' hl (by omega)) (mem_lt' hl' (by omega))) a2 hi2 _ e2)
  have D3 := hid (fun (w' : World) (hb : Below w.heap.size w w') => (p_Less a0 len0 cap0 a1 len1 cap1 s t hl hl' (by omega) (by omega) hok hok' _ w' hb.size (HB.out w' hb) (HB'.out w' hb)).mono fun _ _ h => h.has (fun j hj => by rw [Bool.and_eq_true] at hj; exact mem_lt' hl (by omega) hj.1) a2 hi2 _ e3)
  have D4 := hid (fun (w' : World) (hb : Below w.heap.size w w') => (p_With a0 len0 cap0 s hl (by omega) hok a3 hi3 _ w' hb.size (HB.out w' hb)).mono fun _ _ h => h.has (fun j hj => by
    unfold pWith at hj
    rw [Bool.or_eq_true, Bool.and_eq_true, decide_eq_true_iff, decide_eq_true_iff] at hj
    exact hj.elim (mem_lt' hl (by omega)) (fun h => by omega)) a2 hi2 _ e4)
  have D5 := hid (fun (w' : World) (hb : Below w.heap.size w w') => (p_Without a0 len0 cap0 s hl (by omega) hok a3 hi3 _ w' hb.size (HB.out w' hb)).mono fun _ _ h => h.has (fun j hj => by
    unfold pWithout at hj
    rw [Bool.and_eq_true] at hj
    exact mem_lt' hl (by omega) hj.1) a2 hi2 _ e5)
  unfold BoolRet at C1 C2
  unfold HasVal at D1 D2 D3 D4 D5
  clear hu hu' hi2 hi3 e1 e2 e3 e4 e5 HB HB'
  generalize Bst.memI s a2 = x at *
  generalize Bst.memI t a2 = y at *
  have hb0 := Below.refl w.heap.size w
  generalize hq0 : decide (0 ≤ a2) = q0 at D4 D5
  generalize hq1 : decide (a2 < 4096) = q1 at D4 D5
  generalize hqe : decide (a2 = a3) = qe at D4 D5
  cases q0 <;> cases q1 <;> cases qe <;> cases x <;> cases y
  all_goals try (exfalso; have h0 := of_decide_eq_false hq0; have h1 := of_decide_eq_false hq1; omega)
  all_goals
    first | have h0 := of_decide_eq_true hq0 | have h0 := of_decide_eq_false hq0
    first | have h1 := of_decide_eq_true hq1 | have h1 := of_decide_eq_false hq1
    first | have he : (a2 == a3) = true := beq_iff_eq.2 (of_decide_eq_true hqe) | have he : (a2 == a3) = false := beq_eq_false_iff_ne.2 (of_decide_eq_false hqe)
    first | have hn : (a2 != a3) = false := by (unfold bne; rw [he]; rfl) | have hn : (a2 != a3) = true := by (unfold bne; rw [he]; rfl)
    clear hq0 hq1 hqe
    simp only [Bool.and, Bool.or, Bool.not] at D1 D2 D3 D4 D5
    go_enter Try.func3, Try.ntmps3
    go_wp2_with fail
    refine (F.out _).mono ?_
    rintro e w' ⟨rfl, rfl⟩
    go_wp2_with fail
    refine (C1.out).mono ?_
    rintro e w' ⟨rfl, rfl⟩
    go_wp2_with fail
    refine (C2.out).mono ?_
    rintro e w' ⟨rfl, rfl⟩
    go_wp2_with fail
    refine (D1.out _ hb0).mono ?_
    rintro e v1 ⟨A1, n1, c1, rfl, b1, X1⟩
    have X1 := hid X1
    go_wp2_with fail
    refine (X1.out).mono ?_
    rintro e w' ⟨rfl, rfl⟩
    go_wp2_with fail
    refine (D2.out _ b1).mono ?_
    rintro e v2 ⟨A2, n2, c2, rfl, b2, X2⟩
    have X2 := hid X2
    have b12 := below2 b1 b2
    go_wp2_with fail
    refine (X2.out).mono ?_
    rintro e w' ⟨rfl, rfl⟩
    go_wp2_with fail
    refine (D3.out _ b12).mono ?_
    rintro e v3 ⟨A3, n3, c3, rfl, b3, X3⟩
    have X3 := hid X3
    have b13 := below2 b12 b3
    go_wp2_with fail
    refine (X3.out).mono ?_
    rintro e w' ⟨rfl, rfl⟩
    go_wp2_with fail
    refine (D4.out _ b13).mono ?_
    rintro e v4 ⟨A4, n4, c4, rfl, b4, X4⟩
    have X4 := hid X4
    have b14 := below2 b13 b4
    go_wp2_with fail
    refine (X4.out).mono ?_
    rintro e w' ⟨rfl, rfl⟩
    go_wp2_with fail
    refine (D5.out _ b14).mono ?_
    rintro e v5 ⟨A5, n5, c5, rfl, b5, X5⟩
    have X5 := hid X5
    have b15 := below2 b14 b5
    go_wp2_with fail
    refine (X5.out).mono ?_
    rintro e w' ⟨rfl, rfl⟩
    go_wp2_with fail
    refine (heads _).mono ?_
    rintro e w' ⟨rfl, b6⟩
    go_wp2_with fail
    go_ret
    exact ⟨rfl, below2 b15 b6⟩

/-! ### THE ROW's STEP: WRITTEN OUT: LEAVE IT -/
set_option maxRecDepth 100000 in
theorem lifted (os : Os) (started : os.Started) (H : Type) (enc : TypeId × Value → H) :
    ReturnsInHanded {} Try.checked os 3 .any (Rows.bitsSetsSpec.pre6 enc Try.prog Try.f3 Rows.bitsSetsRow.domain false) (Rows.bitsSetsSpec.post enc Try.prog Try.f3 false true false false) := by
  refine returnsInHanded_of_change (C := Try.checked) own started (by kernel_rfl) Try.func3
    (ChangeSpec.witness6 (enc := enc) (C := Try.checked) false ⟨#[], #[.slice none 0 0, .slice none 0 0, .int .i64 0, .int .i64 0], []⟩ 8 (by kernel_rfl) (by kernel_rfl) (by kernel_rfl) (by kernel_rfl)) ?_
  intro W base args ds gs before hval0 hW hcnd _
  have hval : ∀ (j : Nat) t v, Try.f3.params[j]? = some t → args[j]? = some v → Value.okWide Try.prog W .any base t v := hval0
  have hW' := hW
  obtain ⟨p, q, hA0, hV, rfl, hfz, hnd⟩ := hW
  have hA : DataW.TrodAll enc Try.prog W 0 (fun _ => true) true Try.f3.params.toList args.toList ds p := hA0
  rw [Try.params3] at hA hval
  obtain ⟨v0, vs0, d0, ds0, p0, q0, hargs, rfl, rfl, h0, r0⟩ := trodAll_cons hA
  obtain ⟨v1, vs1, d1, ds1, p1, q1, rfl, rfl, rfl, h1, r1⟩ := trodAll_cons r0
  obtain ⟨v2, vs2, d2, ds2, p2, q2, rfl, rfl, rfl, h2, r2⟩ := trodAll_cons r1
  obtain ⟨v3, vs3, d3, ds3, p3, q3, rfl, rfl, rfl, h3, r3⟩ := trodAll_cons r2
  obtain ⟨rfl, rfl, rfl⟩ := trodAll_nil r3
  obtain rfl : args = #[v0, v1, v2, v3] := by cases args; simp_all
  obtain ⟨rfl, rfl⟩ := trodVars_none hV
  obtain ⟨a0, len0, cap0, rfl⟩ := okWide_slice Try.underlying22 (hval 0 22 v0 rfl rfl)
  have k0 := h0
  have lt0 : ∀ x ∈ p0, x.block < W.heap.size := by obtain ⟨m, hm⟩ := k0; exact DataW.trod_lt m _ _ _ hm
  obtain ⟨z0, w0⟩ : ∃ zs, IsRow .u64 W a0 len0 cap0 zs := by
    obtain ⟨fuel, hf⟩ := h0
    rcases open_ints Try.underlying22 Try.underlying34 (by kernel_rfl) hf with ⟨hcs, _⟩ | ⟨x, l, c, zs, hcs, _, hl, hm, hz, _, hcell, hwz⟩
    · simp [Value.cells] at hcs
      obtain ⟨rfl, rfl, rfl⟩ := hcs
      exact ⟨[], .inl ⟨rfl, rfl, rfl, rfl⟩⟩
    · simp [Value.cells] at hcs
      obtain ⟨rfl, rfl, rfl⟩ := hcs
      exact ⟨zs, .inr ⟨_, rfl, hl, hm, by simpa using hz, hcell, hwz⟩⟩
  obtain ⟨a1, len1, cap1, rfl⟩ := okWide_slice Try.underlying22 (hval 1 22 v1 rfl rfl)
  have k1 := h1
  have lt1 : ∀ x ∈ p1, x.block < W.heap.size := by obtain ⟨m, hm⟩ := k1; exact DataW.trod_lt m _ _ _ hm
  obtain ⟨z1, w1⟩ : ∃ zs, IsRow .u64 W a1 len1 cap1 zs := by
    obtain ⟨fuel, hf⟩ := h1
    rcases open_ints Try.underlying22 Try.underlying34 (by kernel_rfl) hf with ⟨hcs, _⟩ | ⟨x, l, c, zs, hcs, _, hl, hm, hz, _, hcell, hwz⟩
    · simp [Value.cells] at hcs
      obtain ⟨rfl, rfl, rfl⟩ := hcs
      exact ⟨[], .inl ⟨rfl, rfl, rfl, rfl⟩⟩
    · simp [Value.cells] at hcs
      obtain ⟨rfl, rfl, rfl⟩ := hcs
      exact ⟨zs, .inr ⟨_, rfl, hl, hm, by simpa using hz, hcell, hwz⟩⟩
  obtain ⟨a2, rfl, rfl, rfl, w2⟩ := open_int Try.underlying3 (hval 2 3 v2 rfl rfl) h2
  obtain ⟨a3, rfl, rfl, rfl, w3⟩ := open_int Try.underlying3 (hval 3 3 v3 rfl rfl) h3
  clear hA0 hval0
  refine (walk a0 len0 cap0 z0 a1 len1 cap1 z1 a2 a3 W w0 w1 w2 w3).mono fun e W' ⟨he, bel⟩ => ?_
  subst he
  exact ⟨_, rfl, _, _, _, [], _, [], hW', trodAll_mk1 (shut_bool Try.underlying4 _), (trodAll_cons_mk (Below.trod laidOut (by kernel_rfl) (of_decide_eq_true (by kernel_rfl)) k0 bel lt0) (trodAll_cons_mk (Below.trod laidOut (by kernel_rfl) (of_decide_eq_true (by kernel_rfl)) k1 bel lt1) (trodAll_cons_mk (shut_int Try.underlying3 w2) (trodAll_cons_mk (shut_int Try.underlying3 w3) trodAll_mk0)))), rfl, bel.frame _, fun h => by cases h⟩

theorem over : Rows.bitsSetsRow.holds Try.pinned (OpenSpec.ofChange Rows.bitsSetsSpec) :=
  OpenClaim.holds_of_wide 3 Try.f3 rfl rfl rfl rfl rfl rfl rfl ⟨rfl, rfl, rfl, rfl, rfl⟩ rfl rfl rfl rfl rfl (by kernel_rfl) Try.func3 (by kernel_rfl)
    (of_decide_eq_true (by kernel_rfl)) (by unfold Func.isWrapper; first | (rw [if_pos (by decide +kernel)]; kernel_rfl) | (rw [if_neg (by decide +kernel)]; exact ⟨rfl, rfl⟩))
    (fun os started H enc _ => lifted os started H enc)

/-- ████ THE STATEMENT ████ -/
theorem proved : Rows.BitsSetsSaid := over
#print axioms proved
end Go.Proofs.Yteejccppdmjlaaa.bitsSets
