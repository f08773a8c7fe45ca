/- Proves 'BitsRulesSaid': for every input the Go function BitsRules returns true, and each argument reads afterwards as it read before. Conditions: none beyond the row's own. -/
import Derived.Test.YteejccppdmjlaaaRows
import Derived.WalkKit
import Derived.ProofKit
import Derived.OpenShut
import Derived.ShutString
import Derived.SliceStrings
import Derived.ChangeOld
import Derived.Below
import Derived.Test.YteejccppdmjlaaaSetH
namespace Go.Proofs.Yteejccppdmjlaaa.bitsRules
open Go.ChangeShapes Go.WideShapes Go.ChangeAt Go.RowKit
open Go.ChangeMaps (open_string shut_string)
set_option linter.unusedVariables false

theorem own : ownKnob Try.prog.godebug = none := by kernel_rfl
theorem laidOut : laidOutB Try.prog = true := by kernel_rfl

/-- WHAT THE WALK IS TOLD OF A SLICE OF INTEGERS THAT CAME IN: it is nil; or it leads to a row of 'cap' cells, the numbers 'zs' (the first 'len' are its elements, the rest its spare room), each fitting its kind. -/
def IsRow (k : IntKind) (w : World) (a : Option Addr) (len cap : Nat) (zs : List Int) : Prop :=
  (a = none ∧ len = 0 ∧ cap = 0 ∧ zs = []) ∨
  ∃ x, a = some x ∧ len ≤ cap ∧ cap ≤ maxLen ∧ zs.length = cap ∧ (∀ i, i < zs.length → w.cell? (x.add i) = some (.int k (zs.getD i 0))) ∧ ∀ n ∈ zs, (Lit.int k n).wf = true

/-! ### STEP 1: THE WALK: the Go text returns true, AND WRITES NOTHING THAT WAS THERE: 'Below w.heap.size w w'' (Derived/Below.lean: '.refl', '.alloc', '.drew', '.setCell' at a new block, '.trans'). Open each 'IsRow' by 'rcases' AHEAD of 'go_enter'; part every test ahead of the walk. -/
set_option maxHeartbeats 16000000 in
theorem walk (a0 : Option Addr) (len0 cap0 : Nat) (z0 : List Int) (a1 : Option Addr) (len1 cap1 : Nat) (z1 : List Int) (w : World) (w0 : IsRow .u64 w a0 len0 cap0 z0) (w1 : IsRow .u64 w a1 len1 cap1 z1) :
    Calls Try.prog 5 #[.slice a0 len0 cap0, .slice a1 len1 cap1] w fun e w' => e = .returned (.bool true) ∧ Below w.heap.size w w' := by
  obtain ⟨s, hl, hu, hlc, hcm, hok⟩ := open_us w0
  obtain ⟨t, hl', hu', hlc', hcm', hok'⟩ := open_us w1
  clear w0 w1
  have F := hid (fun w => p_few a0 a1 len0 len1 cap0 cap1 w)
  unfold BoolRet at F
  by_cases hf : len0 ≤ 70 ∧ len1 ≤ 70
  case neg =>
    rw [decide_eq_false hf] at F
    clear hf
    go_enter Try.func5, Try.ntmps5
    go_wp2_with fail
    refine (F.out _).mono ?_
    rintro e w' ⟨rfl, rfl⟩
    go_wp2_with fail
    refine (heads _).mono ?_
    rintro e w' ⟨rfl, b⟩
    go_wp2_with fail
    go_ret
    exact ⟨rfl, b⟩
  rw [decide_eq_true hf] at F
  obtain ⟨hf1, hf2⟩ := hf
  have HB := hid (fun (w' : World) (hb : Below w.heap.size w w') => (hu.below hb (Nat.le_refl _)).more hb.size)
  have HB' := hid (fun (w' : World) (hb : Below w.heap.size w w') => (hu'.below hb (Nat.le_refl _)).more hb.size)
  have D1 := hid (fun (w' : World) (hb : Below w.heap.size w w') => (p_And a0 len0 cap0 a1 len1 cap1 s t hl hl' (by omega) (by omega) hok hok' _ w' (Nat.le_refl _) (HB.out w' hb) (HB'.out w' hb)).mono fun _ _ h => h.take (p_and_lt hl (by omega) (Bst.mem t)))
  have D2 := hid (fun (w' : World) (hb : Below w.heap.size w w') => (p_Or a0 len0 cap0 a1 len1 cap1 s t hl hl' (by omega) (by omega) hok hok' _ w' (Nat.le_refl _) (HB.out w' hb) (HB'.out w' hb)).mono fun _ _ h => h.take (p_or_lt hl (by omega) hl' (by omega)))
  have D3 := hid (fun (w' : World) (hb : Below w.heap.size w w') => (p_Less a0 len0 cap0 a1 len1 cap1 s t hl hl' (by omega) (by omega) hok hok' _ w' (Nat.le_refl _) (HB.out w' hb) (HB'.out w' hb)).mono fun _ _ h => h.take (p_and_lt hl (by omega) (fun j => !Bst.mem t j)))
  have D4 := hid (fun (w' : World) (hb : Below w.heap.size w w') => (p_Less a1 len1 cap1 a0 len0 cap0 t s hl' hl (by omega) (by omega) hok' hok _ w' (Nat.le_refl _) (HB'.out w' hb) (HB.out w' hb)).mono fun _ _ h => h.take (p_and_lt hl' (by omega) (fun j => !Bst.mem s j)))
  have D5 := hid (fun (A A' : Option Addr) (c c' : Nat) (x y : List Nat) (hx : x.length ≤ 1000) (hy : y.length ≤ 1000) (ox : Bst.Ok x) (oy : Bst.Ok y) (w' : World) (h : Us w' w'.heap.size A x) (h' : Us w' w'.heap.size A' y) => (p_Or A x.length c A' y.length c' x y rfl rfl (by omega) (by omega) ox oy _ w' (Nat.le_refl _) h h').mono fun _ _ h => h.take (p_or_lt rfl hx rfl hy))
  have D6 := hid (fun (A A' : Option Addr) (c c' : Nat) (x y : List Nat) (hx : x.length ≤ 1000) (hy : y.length ≤ 1000) (ox : Bst.Ok x) (oy : Bst.Ok y) (w' : World) (h : Us w' w'.heap.size A x) (h' : Us w' w'.heap.size A' y) => (p_And A x.length c A' y.length c' x y rfl rfl (by omega) (by omega) ox oy _ w' (Nat.le_refl _) h h').mono fun _ _ h => h.take (p_and_lt rfl hx (Bst.mem y)))
  have D7 := hid (fun (A A' : Option Addr) (c c' : Nat) (x y : List Nat) (hx : x.length ≤ 1000) (hy : y.length ≤ 1000) (ox : Bst.Ok x) (oy : Bst.Ok y) (w' : World) (h : Us w' w'.heap.size A x) (h' : Us w' w'.heap.size A' y) (hm : ∀ i, Bst.mem x i = Bst.mem y i) => (p_Same5 A x.length c A' y.length c' x y rfl rfl (by omega) (by omega) ox oy _ w' (Nat.le_refl _) h h').mono fun _ _ h => h.yes hm)
  have D8 := hid (fun (A : Option Addr) (n c : Nat) (x : List Nat) (hn : x.length = n) (hx : x.length ≤ 1000) (ox : Bst.Ok x) (w' : World) (h : Us w' w'.heap.size A x) => p_Count A n c x hn (by omega) ox _ w' (Nat.le_refl _) h)
  have D9 := hid (fun (A A' : Option Addr) (n n' c c' : Nat) (x y : List Nat) (hn : x.length = n) (hn' : y.length = n') (hx : x.length ≤ 1000) (hy : y.length ≤ 1000) (ox : Bst.Ok x) (oy : Bst.Ok y) (w' : World) (h : Us w' w'.heap.size A x) (h' : Us w' w'.heap.size A' y) (hm : ∀ i, Bst.mem x i = true → Bst.mem y i = true) => (p_Inside A n c A' n' c' x y hn hn' (by omega) (by omega) ox oy _ w' (Nat.le_refl _) h h').mono fun _ _ h => h.yes hm)
  unfold CntRet at D8
  have b0 := Below.refl w.heap.size w
  clear hu hu'
  go_enter Try.func5, Try.ntmps5
  go_wp2_with fail
  refine (F.out _).mono ?_
  rintro e w' ⟨rfl, rfl⟩
  go_wp2_with fail
  refine (D1.out _ b0).mono ?_
  rintro e v1 ⟨A1, c1, l1, rfl, u1, z1, ok1, _, m1, b1⟩
  have U1 := hid u1
  have O1 := hid ok1
  have M1 := hid m1
  clear u1 ok1 m1
  go_wp2_with fail
  refine (D2.out _ b1).mono ?_
  rintro e v2 ⟨A2, c2, l2, rfl, u2, z2, ok2, _, m2, q2⟩
  have U2 := hid u2
  have O2 := hid ok2
  have M2 := hid m2
  clear u2 ok2 m2
  have b2 := below2 b1 q2
  go_wp2_with fail
  refine (D3.out _ b2).mono ?_
  rintro e v3 ⟨A3, c3, l3, rfl, u3, z3, ok3, _, m3, q3⟩
  have U3 := hid u3
  have O3 := hid ok3
  have M3 := hid m3
  clear u3 ok3 m3
  have b3 := below2 b2 q3
  go_wp2_with fail
  refine (D4.out _ b3).mono ?_
  rintro e v4 ⟨A4, c4, l4, rfl, u4, z4, ok4, _, m4, q4⟩
  have U4 := hid u4
  have O4 := hid ok4
  have M4 := hid m4
  clear u4 ok4 m4
  have b4 := below2 b3 q4
  have X5 := hid (D5.out A3 A4 c3 c4 l3 l4 z3 z4 O3.out O4.out v4 ((U3.out.below q4 (Nat.le_refl _)).more q4.size) U4.out)
  go_wp2_with fail
  refine (X5.out).mono ?_
  rintro e v5 ⟨A5, c5, l5, rfl, u5, z5, ok5, _, m5, q5⟩
  have U5 := hid u5
  have O5 := hid ok5
  have M5 := hid (show ∀ i, Bst.mem l5 i = ((Bst.mem s i && !Bst.mem t i) || (Bst.mem t i && !Bst.mem s i)) from fun i => by rw [m5, M3.out, M4.out])
  clear u5 ok5 m5 X5
  have b5 := below2 b4 q5
  have q15 := below3 q2 q3 (below2 q4 q5)
  have X6 := hid (D5.out A1 A5 c1 c5 l1 l5 z1 z5 O1.out O5.out v5 ((U1.out.below q15 (Nat.le_refl _)).more q15.size) U5.out)
  go_wp2_with fail
  refine (X6.out).mono ?_
  rintro e v6 ⟨A6, c6, l6, rfl, u6, z6, ok6, _, m6, q6⟩
  have b6 := below2 b5 q6
  have q26 := below3 q3 q4 (below2 q5 q6)
  have X7 := hid (D7.out A6 A2 c6 c2 l6 l2 z6 z2 ok6 O2.out v6 u6 ((U2.out.below q26 (Nat.le_refl _)).more q26.size) (fun i => by rw [m6, M1.out, M5.out, M2.out]; cases Bst.mem s i <;> cases Bst.mem t i <;> rfl))
  clear u6 ok6 m6 X6
  go_wp2_with fail
  refine (X7.out).mono ?_
  rintro e v7 ⟨rfl, q7⟩
  have b7 := below2 b6 q7
  have q17 := below3 q15 q6 q7
  have q57 := below2 q6 q7
  have X8 := hid (D6.out A1 A5 c1 c5 l1 l5 z1 z5 O1.out O5.out v7 ((U1.out.below q17 (Nat.le_refl _)).more q17.size) ((U5.out.below q57 (Nat.le_refl _)).more q57.size))
  go_wp2_with fail
  refine (X8.out).mono ?_
  rintro e v8 ⟨A8, c8, l8, rfl, u8, z8, ok8, sh8, m8, q8⟩
  obtain rfl : l8 = [] := Bst.nil_of ok8 sh8 fun i => by rw [m8, M1.out, M5.out]; cases Bst.mem s i <;> cases Bst.mem t i <;> rfl
  have b8 := below2 b7 q8
  have X9 := hid (D8.out A8 0 c8 [] rfl z8 ok8 v8 u8)
  rw [show ((Bst.lst []).length : Int) = 0 from rfl] at X9
  clear u8 ok8 m8 X8 X7 sh8
  simp only [List.length_nil]
  go_wp2_with fail
  refine (X9.out).mono ?_
  rintro e v9 ⟨rfl, q9⟩
  have b9 := below2 b8 q9
  have Ya := hid (D8.out a0 len0 cap0 s hl (by omega) hok v9 (HB.out v9 b9))
  have Hcnt := hid (Bst.count_two M1.out M2.out)
  have hca := (Bst.upto_len s (64 * s.length))
  have hcb := (Bst.upto_len t (64 * t.length))
  rw [show Bst.upto s (64 * s.length) = Bst.lst s from rfl] at hca
  rw [show Bst.upto t (64 * t.length) = Bst.lst t from rfl] at hcb
  go_wp2_with fail
  refine (Ya.out).mono ?_
  rintro e va ⟨rfl, qa⟩
  have ba := below2 b9 qa
  have Yb := hid (D8.out a1 len1 cap1 t hl' (by omega) hok' va (HB'.out va ba))
  go_wp2_with fail
  refine (Yb.out).mono ?_
  rintro e vb ⟨rfl, qb⟩
  have bb := below2 ba qb
  have q1b := below3 (below2 q17 q8) q9 (below2 qa qb)
  have Yc := hid (D8.out A1 l1.length c1 l1 rfl z1 O1.out vb ((U1.out.below q1b (Nat.le_refl _)).more q1b.size))
  go_wp2_with fail
  refine (Yc.out).mono ?_
  rintro e vc ⟨rfl, qc⟩
  have bc := below2 bb qc
  have q2c := below4 (below2 q26 q7) (below2 q8 q9) (below2 qa qb) qc
  have Yd := hid (D8.out A2 l2.length c2 l2 rfl z2 O2.out vc ((U2.out.below q2c (Nat.le_refl _)).more q2c.size))
  have hcc := Hcnt.out
  generalize (Bst.lst s).length = n1 at *
  generalize (Bst.lst t).length = n2 at *
  generalize (Bst.lst l1).length = n3 at *
  generalize (Bst.lst l2).length = n4 at *
  have heq : ((n1 : Int) + (n2 : Int) == (n3 : Int) + (n4 : Int)) = true := by rw [beq_iff_eq]; omega
  go_wp2_with fail
  refine (Yd.out).mono ?_
  rintro e vd ⟨rfl, qd⟩
  have bd := below2 bc qd
  have q1d := below3 q1b qc qd
  have q2d := below2 q2c qd
  have Ye := hid (D9.out A1 a0 l1.length len0 c1 cap0 l1 s rfl hl z1 (by omega) O1.out hok vd ((U1.out.below q1d (Nat.le_refl _)).more q1d.size) (HB.out vd bd) (fun i hi => by rw [M1.out, Bool.and_eq_true] at hi; exact hi.1))
  go_wp2_with fail
  refine (Ye.out).mono ?_
  rintro e ve ⟨rfl, qe⟩
  have be := below2 bd qe
  have q2e := below2 q2d qe
  have Yf := hid (D9.out a1 A2 len1 l2.length cap1 c2 t l2 hl' rfl (by omega) z2 hok' O2.out ve (HB'.out ve be) ((U2.out.below q2e (Nat.le_refl _)).more q2e.size) (fun i hi => by rw [M2.out, hi, Bool.or_true]))
  go_wp2_with fail
  refine (Yf.out).mono ?_
  rintro e vf ⟨rfl, qf⟩
  have bf := below2 be qf
  go_wp2_with fail
  refine (heads _).mono ?_
  rintro e w' ⟨rfl, bz⟩
  go_wp2_with fail
  go_ret
  exact ⟨rfl, below2 bf bz⟩

/-! ### THE ROW's STEP: WRITTEN OUT: LEAVE IT -/
set_option maxRecDepth 100000 in
theorem lifted (os : Os) (started : os.Started) (H : Type) (enc : TypeId × Value → H) :
    ReturnsInHanded {} Try.checked os 5 .any (Rows.bitsRulesSpec.pre6 enc Try.prog Try.f5 Rows.bitsRulesRow.domain false) (Rows.bitsRulesSpec.post enc Try.prog Try.f5 false true false false) := by
  refine returnsInHanded_of_change (C := Try.checked) own started (by kernel_rfl) Try.func5
    (ChangeSpec.witness6 (enc := enc) (C := Try.checked) false ⟨#[], #[.slice none 0 0, .slice none 0 0], []⟩ 8 (by kernel_rfl) (by kernel_rfl) (by kernel_rfl) (by kernel_rfl)) ?_
  intro W base args ds gs before hval0 hW hcnd _
  have hval : ∀ (j : Nat) t v, Try.f5.params[j]? = some t → args[j]? = some v → Value.okWide Try.prog W .any base t v := hval0
  have hW' := hW
  obtain ⟨p, q, hA0, hV, rfl, hfz, hnd⟩ := hW
  have hA : DataW.TrodAll enc Try.prog W 0 (fun _ => true) true Try.f5.params.toList args.toList ds p := hA0
  rw [Try.params5] at hA hval
  obtain ⟨v0, vs0, d0, ds0, p0, q0, hargs, rfl, rfl, h0, r0⟩ := trodAll_cons hA
  obtain ⟨v1, vs1, d1, ds1, p1, q1, rfl, rfl, rfl, h1, r1⟩ := trodAll_cons r0
  obtain ⟨rfl, rfl, rfl⟩ := trodAll_nil r1
  obtain rfl : args = #[v0, v1] := by cases args; simp_all
  obtain ⟨rfl, rfl⟩ := trodVars_none hV
  obtain ⟨a0, len0, cap0, rfl⟩ := okWide_slice Try.underlying22 (hval 0 22 v0 rfl rfl)
  have k0 := h0
  have lt0 : ∀ x ∈ p0, x.block < W.heap.size := by obtain ⟨m, hm⟩ := k0; exact DataW.trod_lt m _ _ _ hm
  obtain ⟨z0, w0⟩ : ∃ zs, IsRow .u64 W a0 len0 cap0 zs := by
    obtain ⟨fuel, hf⟩ := h0
    rcases open_ints Try.underlying22 Try.underlying34 (by kernel_rfl) hf with ⟨hcs, _⟩ | ⟨x, l, c, zs, hcs, _, hl, hm, hz, _, hcell, hwz⟩
    · simp [Value.cells] at hcs
      obtain ⟨rfl, rfl, rfl⟩ := hcs
      exact ⟨[], .inl ⟨rfl, rfl, rfl, rfl⟩⟩
    · simp [Value.cells] at hcs
      obtain ⟨rfl, rfl, rfl⟩ := hcs
      exact ⟨zs, .inr ⟨_, rfl, hl, hm, by simpa using hz, hcell, hwz⟩⟩
  obtain ⟨a1, len1, cap1, rfl⟩ := okWide_slice Try.underlying22 (hval 1 22 v1 rfl rfl)
  have k1 := h1
  have lt1 : ∀ x ∈ p1, x.block < W.heap.size := by obtain ⟨m, hm⟩ := k1; exact DataW.trod_lt m _ _ _ hm
  obtain ⟨z1, w1⟩ : ∃ zs, IsRow .u64 W a1 len1 cap1 zs := by
    obtain ⟨fuel, hf⟩ := h1
    rcases open_ints Try.underlying22 Try.underlying34 (by kernel_rfl) hf with ⟨hcs, _⟩ | ⟨x, l, c, zs, hcs, _, hl, hm, hz, _, hcell, hwz⟩
    · simp [Value.cells] at hcs
      obtain ⟨rfl, rfl, rfl⟩ := hcs
      exact ⟨[], .inl ⟨rfl, rfl, rfl, rfl⟩⟩
    · simp [Value.cells] at hcs
      obtain ⟨rfl, rfl, rfl⟩ := hcs
      exact ⟨zs, .inr ⟨_, rfl, hl, hm, by simpa using hz, hcell, hwz⟩⟩
  clear hA0 hval0
  refine (walk a0 len0 cap0 z0 a1 len1 cap1 z1 W w0 w1).mono fun e W' ⟨he, bel⟩ => ?_
  subst he
  exact ⟨_, rfl, _, _, _, [], _, [], hW', trodAll_mk1 (shut_bool Try.underlying4 _), (trodAll_cons_mk (Below.trod laidOut (by kernel_rfl) (of_decide_eq_true (by kernel_rfl)) k0 bel lt0) (trodAll_cons_mk (Below.trod laidOut (by kernel_rfl) (of_decide_eq_true (by kernel_rfl)) k1 bel lt1) trodAll_mk0)), rfl, bel.frame _, fun h => by cases h⟩

theorem over : Rows.bitsRulesRow.holds Try.pinned (OpenSpec.ofChange Rows.bitsRulesSpec) :=
  OpenClaim.holds_of_wide 5 Try.f5 rfl rfl rfl rfl rfl rfl rfl ⟨rfl, rfl, rfl, rfl, rfl⟩ rfl rfl rfl rfl rfl (by kernel_rfl) Try.func5 (by kernel_rfl)
    (of_decide_eq_true (by kernel_rfl)) (by unfold Func.isWrapper; first | (rw [if_pos (by decide +kernel)]; kernel_rfl) | (rw [if_neg (by decide +kernel)]; exact ⟨rfl, rfl⟩))
    (fun os started H enc _ => lifted os started H enc)

/-- ████ THE STATEMENT ████ -/
theorem proved : Rows.BitsRulesSaid := over
#print axioms proved
end Go.Proofs.Yteejccppdmjlaaa.bitsRules
