/- Proves 'BitsTellsSaid': for every input the Go function BitsTells returns true, and each argument reads afterwards as it read before. Conditions: none beyond the row's own. -/
import Derived.Test.YteejccppdmjlaaaRows
import Derived.WalkKit
import Derived.ProofKit
import Derived.OpenShut
import Derived.ShutString
import Derived.SliceStrings
import Derived.ChangeOld
import Derived.Below
import Derived.Test.YteejccppdmjlaaaSetH
namespace Go.Proofs.Yteejccppdmjlaaa.bitsTells
open Go.ChangeShapes Go.WideShapes Go.ChangeAt Go.RowKit
open Go.ChangeMaps (open_string shut_string)
set_option linter.unusedVariables false

theorem own : ownKnob Try.prog.godebug = none := by kernel_rfl
theorem laidOut : laidOutB Try.prog = true := by kernel_rfl

/-- WHAT THE WALK IS TOLD OF A SLICE OF INTEGERS THAT CAME IN: it is nil; or it leads to a row of 'cap' cells, the numbers 'zs' (the first 'len' are its elements, the rest its spare room), each fitting its kind. -/
def IsRow (k : IntKind) (w : World) (a : Option Addr) (len cap : Nat) (zs : List Int) : Prop :=
  (a = none ∧ len = 0 ∧ cap = 0 ∧ zs = []) ∨
  ∃ x, a = some x ∧ len ≤ cap ∧ cap ≤ maxLen ∧ zs.length = cap ∧ (∀ i, i < zs.length → w.cell? (x.add i) = some (.int k (zs.getD i 0))) ∧ ∀ n ∈ zs, (Lit.int k n).wf = true

/-! ### STEP 1: THE WALK: the Go text returns true, AND WRITES NOTHING THAT WAS THERE: 'Below w.heap.size w w'' (Derived/Below.lean: '.refl', '.alloc', '.drew', '.setCell' at a new block, '.trans'). Open each 'IsRow' by 'rcases' AHEAD of 'go_enter'; part every test ahead of the walk. -/
set_option maxHeartbeats 16000000 in
theorem walk (a0 : Option Addr) (len0 cap0 : Nat) (z0 : List Int) (a1 : Option Addr) (len1 cap1 : Nat) (z1 : List Int) (a2 : Int) (a3 : Option Addr) (len3 cap3 : Nat) (z3 : List Int) (w : World) (w0 : IsRow .u64 w a0 len0 cap0 z0) (w1 : IsRow .u64 w a1 len1 cap1 z1) (w2 : (Lit.int .i64 a2).wf = true) (w3 : IsRow .i64 w a3 len3 cap3 z3) :
    Calls Try.prog 4 #[.slice a0 len0 cap0, .slice a1 len1 cap1, .int .i64 a2, .slice a3 len3 cap3] w fun e w' => e = .returned (.bool true) ∧ Below w.heap.size w w' := by
  obtain ⟨s, hl, hu, hlc, hcm, hok⟩ := open_us w0
  obtain ⟨t, hl', hu', hlc', hcm', hok'⟩ := open_us w1
  obtain ⟨k1, k2⟩ := bounds_i64 w2
  obtain ⟨l, hll, hul, hllc, hlcm, hlok⟩ := open_its w3
  clear w0 w1 w2 w3
  have F := hid (fun w => p_few a0 a1 len0 len1 cap0 cap1 w)
  unfold BoolRet at F
  by_cases hf : len0 ≤ 70 ∧ len1 ≤ 70
  case neg =>
    rw [decide_eq_false hf] at F
    clear hf
    go_enter Try.func4, Try.ntmps4
    go_wp2_with fail
    refine (F.out _).mono ?_
    rintro e w' ⟨rfl, rfl⟩
    go_wp2_with fail
    refine (heads _).mono ?_
    rintro e w' ⟨rfl, b⟩
    go_wp2_with fail
    go_ret
    exact ⟨rfl, b⟩
  rw [decide_eq_true hf] at F
  obtain ⟨hf1, hf2⟩ := hf
  by_cases hbig : (100 : Int) < len3
  · go_enter Try.func4, Try.ntmps4
    go_wp2_with fail
    refine (F.out _).mono ?_
    rintro e w' ⟨rfl, rfl⟩
    go_wp2_with fail
    refine (heads _).mono ?_
    rintro e w' ⟨rfl, b⟩
    go_wp2_with fail
    go_ret
    exact ⟨rfl, b⟩
  have HB := hid (fun (w' : World) (hb : Below w.heap.size w w') => hu.below hb (Nat.le_refl _))
  have HB' := hid (fun (w' : World) (hb : Below w.heap.size w w') => hu'.below hb (Nat.le_refl _))
  have HL := hid (fun (w' : World) (hb : Below w.heap.size w w') => hul.below hb (Nat.le_refl _))
  have hi2 : I64 a2 := by unfold I64; omega
  have D1 := hid (fun (w' : World) (hb : Below w.heap.size w w') => p_And a0 len0 cap0 a1 len1 cap1 s t hl hl' (by omega) (by omega) hok hok' _ w' hb.size (HB.out w' hb) (HB'.out w' hb))
  have E1 := hid (fun (w' : World) (hb : Below w.heap.size w w') => r_And a0 len0 cap0 a1 len1 cap1 s t hl hl' (by omega) (by omega) _ w' hb.size (HB.out w' hb) (HB'.out w' hb))
  have P1 := hid (p_and_lt hl (by omega) (Bst.mem t))
  have D2 := hid (fun (w' : World) (hb : Below w.heap.size w w') => p_Or a0 len0 cap0 a1 len1 cap1 s t hl hl' (by omega) (by omega) hok hok' _ w' hb.size (HB.out w' hb) (HB'.out w' hb))
  have E2 := hid (fun (w' : World) (hb : Below w.heap.size w w') => r_Or a0 len0 cap0 a1 len1 cap1 s t hl hl' (by omega) (by omega) _ w' hb.size (HB.out w' hb) (HB'.out w' hb))
  have P2 := hid (p_or_lt hl (by omega) hl' (by omega))
  have D3 := hid (fun (w' : World) (hb : Below w.heap.size w w') => p_Less a0 len0 cap0 a1 len1 cap1 s t hl hl' (by omega) (by omega) hok hok' _ w' hb.size (HB.out w' hb) (HB'.out w' hb))
  have E3 := hid (fun (w' : World) (hb : Below w.heap.size w w') => r_Less a0 len0 cap0 a1 len1 cap1 s t hl hl' (by omega) (by omega) _ w' hb.size (HB.out w' hb) (HB'.out w' hb))
  have P3 := hid (p_and_lt hl (by omega) (fun j => !Bst.mem t j))
  have D4 := hid (fun (w' : World) (hb : Below w.heap.size w w') => p_With a0 len0 cap0 s hl (by omega) hok a2 hi2 _ w' hb.size (HB.out w' hb))
  have E4 := hid (fun (w' : World) (hb : Below w.heap.size w w') => r_With a0 len0 cap0 s hl (by omega) a2 hi2 _ w' hb.size (HB.out w' hb))
  have P4 := hid (pWith_lt hl (by omega) a2)
  have D5 := hid (fun (w' : World) (hb : Below w.heap.size w w') => p_Without a0 len0 cap0 s hl (by omega) hok a2 hi2 _ w' hb.size (HB.out w' hb))
  have E5 := hid (fun (w' : World) (hb : Below w.heap.size w w') => r_Without a0 len0 cap0 s hl (by omega) a2 hi2 _ w' hb.size (HB.out w' hb))
  have P5 := hid (pWithout_lt hl (by omega) a2)
  have D6 := hid (fun (w' : World) (hb : Below w.heap.size w w') => p_Of a3 len3 cap3 l hll (by omega) hlok _ w' hb.size (HL.out w' hb))
  have E6 := hid (fun (w' : World) (hb : Below w.heap.size w w') => r_Of a3 len3 cap3 l hll (by omega) hlok _ w' hb.size (HL.out w' hb))
  have P6 := hid (pOf_lt l)
  unfold SetRet at D1 D2 D3 D4 D5 D6 E1 E2 E3 E4 E5 E6
  have C1 := hid (fun (w' : World) (hb : Below w.heap.size w w') => p_Has a0 len0 cap0 s hl (by omega) hok a2 hi2 _ w' (HB.out w' hb))
  have C2 := hid (fun (w' : World) (hb : Below w.heap.size w w') => r_Has a0 len0 cap0 s hl (by omega) a2 hi2 _ w' (HB.out w' hb))
  unfold BoolRet at C1 C2
  generalize Bst.memI s a2 = x at *
  have b0 := Below.refl w.heap.size w
  clear hu hu' hul hi2 HB HB' HL
  go_enter Try.func4, Try.ntmps4
  go_wp2_with fail
  refine (F.out _).mono ?_
  rintro e w' ⟨rfl, rfl⟩
  go_wp2_with fail
  refine (D1.out _ b0).mono ?_
  rintro e v1 ⟨A1, c1, l1, rfl, u1, _, ok1, sh1, m1, q1⟩
  have U1 := hid u1
  have OK1 := hid ok1
  have SH1 := hid sh1
  have M1 := hid m1
  clear u1 ok1 sh1 m1
  have r1 := below2 b0 q1
  go_wp2_with fail
  refine (E1.out _ r1).mono ?_
  rintro e v2 ⟨A2, c2, l2, rfl, u2, _, ok2, sh2, m2, q2⟩
  obtain rfl : l1 = l2 := Bst.ext OK1.out ok2 SH1.out sh2 fun j => by rw [M1.out, m2]
  have W1 := hid (words_same A1 A2 c1 c2 l1 (Bst.short_len SH1.out OK1.out 1000 (fun j hj => P1.out j (by rw [M1.out] at hj; exact hj))) _ _ v2 (U1.out.below q2 (Nat.le_refl _)) u2)
  clear u2 ok2 sh2 m2 U1 OK1 SH1 M1
  go_wp2_with fail
  refine (W1.out).mono ?_
  rintro e v3 ⟨rfl, q3⟩
  have b1 := below3 r1 q2 q3
  go_wp2_with fail
  refine (D2.out _ b1).mono ?_
  rintro e v1 ⟨A1, c1, l1, rfl, u1, _, ok1, sh1, m1, q1⟩
  have U1 := hid u1
  have OK1 := hid ok1
  have SH1 := hid sh1
  have M1 := hid m1
  clear u1 ok1 sh1 m1
  have r1 := below2 b1 q1
  go_wp2_with fail
  refine (E2.out _ r1).mono ?_
  rintro e v2 ⟨A2, c2, l2, rfl, u2, _, ok2, sh2, m2, q2⟩
  obtain rfl : l1 = l2 := Bst.ext OK1.out ok2 SH1.out sh2 fun j => by rw [M1.out, m2]
  have W1 := hid (words_same A1 A2 c1 c2 l1 (Bst.short_len SH1.out OK1.out 1000 (fun j hj => P2.out j (by rw [M1.out] at hj; exact hj))) _ _ v2 (U1.out.below q2 (Nat.le_refl _)) u2)
  clear u2 ok2 sh2 m2 U1 OK1 SH1 M1
  go_wp2_with fail
  refine (W1.out).mono ?_
  rintro e v3 ⟨rfl, q3⟩
  have b2 := below3 r1 q2 q3
  go_wp2_with fail
  refine (D3.out _ b2).mono ?_
  rintro e v1 ⟨A1, c1, l1, rfl, u1, _, ok1, sh1, m1, q1⟩
  have U1 := hid u1
  have OK1 := hid ok1
  have SH1 := hid sh1
  have M1 := hid m1
  clear u1 ok1 sh1 m1
  have r1 := below2 b2 q1
  go_wp2_with fail
  refine (E3.out _ r1).mono ?_
  rintro e v2 ⟨A2, c2, l2, rfl, u2, _, ok2, sh2, m2, q2⟩
  obtain rfl : l1 = l2 := Bst.ext OK1.out ok2 SH1.out sh2 fun j => by rw [M1.out, m2]
  have W1 := hid (words_same A1 A2 c1 c2 l1 (Bst.short_len SH1.out OK1.out 1000 (fun j hj => P3.out j (by rw [M1.out] at hj; exact hj))) _ _ v2 (U1.out.below q2 (Nat.le_refl _)) u2)
  clear u2 ok2 sh2 m2 U1 OK1 SH1 M1
  go_wp2_with fail
  refine (W1.out).mono ?_
  rintro e v3 ⟨rfl, q3⟩
  have b3 := below3 r1 q2 q3
  go_wp2_with fail
  refine (D4.out _ b3).mono ?_
  rintro e v1 ⟨A1, c1, l1, rfl, u1, _, ok1, sh1, m1, q1⟩
  have U1 := hid u1
  have OK1 := hid ok1
  have SH1 := hid sh1
  have M1 := hid m1
  clear u1 ok1 sh1 m1
  have r1 := below2 b3 q1
  go_wp2_with fail
  refine (E4.out _ r1).mono ?_
  rintro e v2 ⟨A2, c2, l2, rfl, u2, _, ok2, sh2, m2, q2⟩
  obtain rfl : l1 = l2 := Bst.ext OK1.out ok2 SH1.out sh2 fun j => by rw [M1.out, m2]
  have W1 := hid (words_same A1 A2 c1 c2 l1 (Bst.short_len SH1.out OK1.out 1000 (fun j hj => P4.out j (by rw [M1.out] at hj; exact hj))) _ _ v2 (U1.out.below q2 (Nat.le_refl _)) u2)
  clear u2 ok2 sh2 m2 U1 OK1 SH1 M1
  go_wp2_with fail
  refine (W1.out).mono ?_
  rintro e v3 ⟨rfl, q3⟩
  have b4 := below3 r1 q2 q3
  go_wp2_with fail
  refine (D5.out _ b4).mono ?_
  rintro e v1 ⟨A1, c1, l1, rfl, u1, _, ok1, sh1, m1, q1⟩
  have U1 := hid u1
  have OK1 := hid ok1
  have SH1 := hid sh1
  have M1 := hid m1
  clear u1 ok1 sh1 m1
  have r1 := below2 b4 q1
  go_wp2_with fail
  refine (E5.out _ r1).mono ?_
  rintro e v2 ⟨A2, c2, l2, rfl, u2, _, ok2, sh2, m2, q2⟩
  obtain rfl : l1 = l2 := Bst.ext OK1.out ok2 SH1.out sh2 fun j => by rw [M1.out, m2]
  have W1 := hid (words_same A1 A2 c1 c2 l1 (Bst.short_len SH1.out OK1.out 1000 (fun j hj => P5.out j (by rw [M1.out] at hj; exact hj))) _ _ v2 (U1.out.below q2 (Nat.le_refl _)) u2)
  clear u2 ok2 sh2 m2 U1 OK1 SH1 M1
  go_wp2_with fail
  refine (W1.out).mono ?_
  rintro e v3 ⟨rfl, q3⟩
  have b5 := below3 r1 q2 q3
  go_wp2_with fail
  refine (D6.out _ b5).mono ?_
  rintro e v1 ⟨A1, c1, l1, rfl, u1, _, ok1, sh1, m1, q1⟩
  have U1 := hid u1
  have OK1 := hid ok1
  have SH1 := hid sh1
  have M1 := hid m1
  clear u1 ok1 sh1 m1
  have r1 := below2 b5 q1
  go_wp2_with fail
  refine (E6.out _ r1).mono ?_
  rintro e v2 ⟨A2, c2, l2, rfl, u2, _, ok2, sh2, m2, q2⟩
  obtain rfl : l1 = l2 := Bst.ext OK1.out ok2 SH1.out sh2 fun j => by rw [M1.out, m2]
  have W1 := hid (words_same A1 A2 c1 c2 l1 (Bst.short_len SH1.out OK1.out 1000 (fun j hj => P6.out j (by rw [M1.out] at hj; exact hj))) _ _ v2 (U1.out.below q2 (Nat.le_refl _)) u2)
  clear u2 ok2 sh2 m2 U1 OK1 SH1 M1
  go_wp2_with fail
  refine (W1.out).mono ?_
  rintro e v3 ⟨rfl, q3⟩
  have b6 := below3 r1 q2 q3
  go_wp2_with fail
  refine (C1.out _ b6).mono ?_
  rintro e w' ⟨rfl, rfl⟩
  go_wp2_with fail
  refine (C2.out _ b6).mono ?_
  rintro e w' ⟨rfl, rfl⟩
  have hxx : (x == x) = true := beq_self_eq_true x
  go_wp2_with fail
  refine (heads _).mono ?_
  rintro e w' ⟨rfl, b7⟩
  go_wp2_with fail
  go_ret
  exact ⟨rfl, below2 b6 b7⟩

/-! ### THE ROW's STEP: WRITTEN OUT: LEAVE IT -/
set_option maxRecDepth 100000 in
theorem lifted (os : Os) (started : os.Started) (H : Type) (enc : TypeId × Value → H) :
    ReturnsInHanded {} Try.checked os 4 .any (Rows.bitsTellsSpec.pre6 enc Try.prog Try.f4 Rows.bitsTellsRow.domain false) (Rows.bitsTellsSpec.post enc Try.prog Try.f4 false true false false) := by
  refine returnsInHanded_of_change (C := Try.checked) own started (by kernel_rfl) Try.func4
    (ChangeSpec.witness6 (enc := enc) (C := Try.checked) false ⟨#[], #[.slice none 0 0, .slice none 0 0, .int .i64 0, .slice none 0 0], []⟩ 8 (by kernel_rfl) (by kernel_rfl) (by kernel_rfl) (by kernel_rfl)) ?_
  intro W base args ds gs before hval0 hW hcnd _
  have hval : ∀ (j : Nat) t v, Try.f4.params[j]? = some t → args[j]? = some v → Value.okWide Try.prog W .any base t v := hval0
  have hW' := hW
  obtain ⟨p, q, hA0, hV, rfl, hfz, hnd⟩ := hW
  have hA : DataW.TrodAll enc Try.prog W 0 (fun _ => true) true Try.f4.params.toList args.toList ds p := hA0
  rw [Try.params4] at hA hval
  obtain ⟨v0, vs0, d0, ds0, p0, q0, hargs, rfl, rfl, h0, r0⟩ := trodAll_cons hA
  obtain ⟨v1, vs1, d1, ds1, p1, q1, rfl, rfl, rfl, h1, r1⟩ := trodAll_cons r0
  obtain ⟨v2, vs2, d2, ds2, p2, q2, rfl, rfl, rfl, h2, r2⟩ := trodAll_cons r1
  obtain ⟨v3, vs3, d3, ds3, p3, q3, rfl, rfl, rfl, h3, r3⟩ := trodAll_cons r2
  obtain ⟨rfl, rfl, rfl⟩ := trodAll_nil r3
  obtain rfl : args = #[v0, v1, v2, v3] := by cases args; simp_all
  obtain ⟨rfl, rfl⟩ := trodVars_none hV
  obtain ⟨a0, len0, cap0, rfl⟩ := okWide_slice Try.underlying22 (hval 0 22 v0 rfl rfl)
  have k0 := h0
  have lt0 : ∀ x ∈ p0, x.block < W.heap.size := by obtain ⟨m, hm⟩ := k0; exact DataW.trod_lt m _ _ _ hm
  obtain ⟨z0, w0⟩ : ∃ zs, IsRow .u64 W a0 len0 cap0 zs := by
    obtain ⟨fuel, hf⟩ := h0
    rcases open_ints Try.underlying22 Try.underlying34 (by kernel_rfl) hf with ⟨hcs, _⟩ | ⟨x, l, c, zs, hcs, _, hl, hm, hz, _, hcell, hwz⟩
    · simp [Value.cells] at hcs
      obtain ⟨rfl, rfl, rfl⟩ := hcs
      exact ⟨[], .inl ⟨rfl, rfl, rfl, rfl⟩⟩
    · simp [Value.cells] at hcs
      obtain ⟨rfl, rfl, rfl⟩ := hcs
      exact ⟨zs, .inr ⟨_, rfl, hl, hm, by simpa using hz, hcell, hwz⟩⟩
  obtain ⟨a1, len1, cap1, rfl⟩ := okWide_slice Try.underlying22 (hval 1 22 v1 rfl rfl)
  have k1 := h1
  have lt1 : ∀ x ∈ p1, x.block < W.heap.size := by obtain ⟨m, hm⟩ := k1; exact DataW.trod_lt m _ _ _ hm
  obtain ⟨z1, w1⟩ : ∃ zs, IsRow .u64 W a1 len1 cap1 zs := by
    obtain ⟨fuel, hf⟩ := h1
    rcases open_ints Try.underlying22 Try.underlying34 (by kernel_rfl) hf with ⟨hcs, _⟩ | ⟨x, l, c, zs, hcs, _, hl, hm, hz, _, hcell, hwz⟩
    · simp [Value.cells] at hcs
      obtain ⟨rfl, rfl, rfl⟩ := hcs
      exact ⟨[], .inl ⟨rfl, rfl, rfl, rfl⟩⟩
    · simp [Value.cells] at hcs
      obtain ⟨rfl, rfl, rfl⟩ := hcs
      exact ⟨zs, .inr ⟨_, rfl, hl, hm, by simpa using hz, hcell, hwz⟩⟩
  obtain ⟨a2, rfl, rfl, rfl, w2⟩ := open_int Try.underlying3 (hval 2 3 v2 rfl rfl) h2
  obtain ⟨a3, len3, cap3, rfl⟩ := okWide_slice Try.underlying29 (hval 3 29 v3 rfl rfl)
  have k3 := h3
  have lt3 : ∀ x ∈ p3, x.block < W.heap.size := by obtain ⟨m, hm⟩ := k3; exact DataW.trod_lt m _ _ _ hm
  obtain ⟨z3, w3⟩ : ∃ zs, IsRow .i64 W a3 len3 cap3 zs := by
    obtain ⟨fuel, hf⟩ := h3
    rcases open_ints Try.underlying29 Try.underlying3 (by kernel_rfl) hf with ⟨hcs, _⟩ | ⟨x, l, c, zs, hcs, _, hl, hm, hz, _, hcell, hwz⟩
    · simp [Value.cells] at hcs
      obtain ⟨rfl, rfl, rfl⟩ := hcs
      exact ⟨[], .inl ⟨rfl, rfl, rfl, rfl⟩⟩
    · simp [Value.cells] at hcs
      obtain ⟨rfl, rfl, rfl⟩ := hcs
      exact ⟨zs, .inr ⟨_, rfl, hl, hm, by simpa using hz, hcell, hwz⟩⟩
  clear hA0 hval0
  refine (walk a0 len0 cap0 z0 a1 len1 cap1 z1 a2 a3 len3 cap3 z3 W w0 w1 w2 w3).mono fun e W' ⟨he, bel⟩ => ?_
  subst he
  exact ⟨_, rfl, _, _, _, [], _, [], hW', trodAll_mk1 (shut_bool Try.underlying4 _), (trodAll_cons_mk (Below.trod laidOut (by kernel_rfl) (of_decide_eq_true (by kernel_rfl)) k0 bel lt0) (trodAll_cons_mk (Below.trod laidOut (by kernel_rfl) (of_decide_eq_true (by kernel_rfl)) k1 bel lt1) (trodAll_cons_mk (shut_int Try.underlying3 w2) (trodAll_cons_mk (Below.trod laidOut (by kernel_rfl) (of_decide_eq_true (by kernel_rfl)) k3 bel lt3) trodAll_mk0)))), rfl, bel.frame _, fun h => by cases h⟩

theorem over : Rows.bitsTellsRow.holds Try.pinned (OpenSpec.ofChange Rows.bitsTellsSpec) :=
  OpenClaim.holds_of_wide 4 Try.f4 rfl rfl rfl rfl rfl rfl rfl ⟨rfl, rfl, rfl, rfl, rfl⟩ rfl rfl rfl rfl rfl (by kernel_rfl) Try.func4 (by kernel_rfl)
    (of_decide_eq_true (by kernel_rfl)) (by unfold Func.isWrapper; first | (rw [if_pos (by decide +kernel)]; kernel_rfl) | (rw [if_neg (by decide +kernel)]; exact ⟨rfl, rfl⟩))
    (fun os started H enc _ => lifted os started H enc)

/-- ████ THE STATEMENT ████ -/
theorem proved : Rows.BitsTellsSaid := over
#print axioms proved
end Go.Proofs.Yteejccppdmjlaaa.bitsTells
