/- Proves 'BitsGreatSaid': for every input the Go function BitsGreat returns true, and each argument reads afterwards as it read before. Conditions: none beyond the row's own. -/
import Derived.Test.YteejccppdmjlaaaRows
import Derived.WalkKit
import Derived.ProofKit
import Derived.OpenShut
import Derived.ShutString
import Derived.SliceStrings
import Derived.ChangeOld
import Derived.Below
import Derived.Test.YteejccppdmjlaaaSetH
namespace Go.Proofs.Yteejccppdmjlaaa.bitsGreat
open Go.ChangeShapes Go.WideShapes Go.ChangeAt Go.RowKit
open Go.ChangeMaps (open_string shut_string)
set_option linter.unusedVariables false

theorem own : ownKnob Try.prog.godebug = none := by kernel_rfl
theorem laidOut : laidOutB Try.prog = true := by kernel_rfl

/-- WHAT THE WALK IS TOLD OF A SLICE OF INTEGERS THAT CAME IN: it is nil; or it leads to a row of 'cap' cells, the numbers 'zs' (the first 'len' are its elements, the rest its spare room), each fitting its kind. -/
def IsRow (k : IntKind) (w : World) (a : Option Addr) (len cap : Nat) (zs : List Int) : Prop :=
  (a = none ∧ len = 0 ∧ cap = 0 ∧ zs = []) ∨
  ∃ x, a = some x ∧ len ≤ cap ∧ cap ≤ maxLen ∧ zs.length = cap ∧ (∀ i, i < zs.length → w.cell? (x.add i) = some (.int k (zs.getD i 0))) ∧ ∀ n ∈ zs, (Lit.int k n).wf = true

/-! ### STEP 1: THE WALK: the Go text returns true, AND WRITES NOTHING THAT WAS THERE: 'Below w.heap.size w w'' (Derived/Below.lean: '.refl', '.alloc', '.drew', '.setCell' at a new block, '.trans'). Open each 'IsRow' by 'rcases' AHEAD of 'go_enter'; part every test ahead of the walk. -/
set_option maxHeartbeats 16000000 in
theorem walk (a0 : Option Addr) (len0 cap0 : Nat) (z0 : List Int) (a1 : Int) (w : World) (w0 : IsRow .u64 w a0 len0 cap0 z0) (w1 : (Lit.int .i64 a1).wf = true) :
    Calls Try.prog 6 #[.slice a0 len0 cap0, .int .i64 a1] w fun e w' => e = .returned (.bool true) ∧ Below w.heap.size w w' := by
  obtain ⟨s, hl, hu, hlc, hcm, hok⟩ := open_us w0
  obtain ⟨k1, k2⟩ := bounds_i64 w1
  clear w0 w1
  by_cases hbig : (70 : Int) < len0
  · go_enter Try.func6, Try.ntmps6
    go_wp2_with fail
    refine (heads _).mono ?_
    rintro e w' ⟨rfl, b⟩
    go_wp2_with fail
    go_ret
    exact ⟨rfl, b⟩
  by_cases hmay : 0 ≤ a1 ∧ a1 < 4096
  · obtain ⟨m1, m2⟩ := hmay
    go_enter Try.func6, Try.ntmps6
    go_wp2_with fail
    refine (heads _).mono ?_
    rintro e w' ⟨rfl, b⟩
    go_wp2_with fail
    go_ret
    exact ⟨rfl, b⟩
  have hi1 : I64 a1 := by unfold I64; omega
  have hbig' : (len0 : Int) ≤ 70 := by omega
  have HB := hid (fun (w' : World) (hb : Below w.heap.size w w') => hu.below hb (Nat.le_refl _))
  have D1 := hid ((p_With a0 len0 cap0 s hl (by omega) hok a1 hi1 _ w (Nat.le_refl _) hu).mono fun _ _ h => h.take (pWith_lt hl (by omega) a1))
  have e1 : ∀ j, pWith s a1 j = Bst.mem s j := fun j => by unfold pWith; rw [decide_eq_false hmay, Bool.false_and, Bool.or_false]
  have D2 := hid (fun (A : Option Addr) (c : Nat) (l : List Nat) (w' : World) (hb : Below w.heap.size w w') (hx : l.length ≤ 1000) (ho : Bst.Ok l) (hm : ∀ j, Bst.mem l j = Bst.mem s j) (h : Us w' w'.heap.size A l) => (p_Same5 A l.length c a0 len0 cap0 l s rfl hl (by omega) (by omega) ho hok _ w' (Nat.le_refl _) h ((HB.out w' hb).more hb.size)).mono fun _ _ h => h.yes hm)
  have D3 := hid (fun (g : Nat) (w' : World) (hg : g = w'.heap.size) => of_lit [a1] [] Bst.ok_nil Bst.short_nil (fun i hi => by rw [List.mem_singleton] at hi; subst hi; exact hi1) (by show 1 ≤ 1000; omega) (fun j => by
    rw [Bst.mem_nil]
    unfold pOf
    by_cases hj : j < 4096
    · rw [decide_eq_false (show ¬ (j : Int) ∈ [a1] by rw [List.mem_singleton]; omega), Bool.and_false]
    · rw [decide_eq_false hj, Bool.false_and]) g w' hg)
  unfold SetIs at D3
  simp only [List.map_cons, List.map_nil, List.length_cons, List.length_nil, Nat.zero_add] at D3
  have D4 := hid (fun (A : Option Addr) (c : Nat) (w' : World) => p_Count A 0 c [] rfl (by decide) Bst.ok_nil _ w' (Nat.le_refl _) (Rd.none_ _ _ _))
  unfold CntRet at D4
  rw [show ((Bst.lst []).length : Int) = 0 from rfl] at D4
  have C1 := hid (fun (w' : World) (hb : Below w.heap.size w w') => p_Has a0 len0 cap0 s hl (by omega) hok a1 hi1 _ w' (HB.out w' hb))
  have C2 := hid (fun (w' : World) (hb : Below w.heap.size w w') => r_Has a0 len0 cap0 s hl (by omega) a1 hi1 _ w' (HB.out w' hb))
  unfold BoolRet at C1 C2
  have hz : ¬ (0 ≤ a1 ∧ a1 < 64 * (len0 : Int)) → Bst.memI s a1 = false := fun hn => by
    unfold Bst.memI
    by_cases h0 : 0 ≤ a1
    · rw [Bst.mem_ge (by omega), Bool.and_false]
    · rw [decide_eq_false h0, Bool.false_and]
  have HZ := hid hz
  have hxx := hid (beq_self_eq_true (Bst.memI s a1))
  have E1 := hid e1
  generalize Bst.memI s a1 = x at *
  clear hz e1 hu hi1 HB
  by_cases h0 : 0 ≤ a1 <;> by_cases h1 : a1 < 64 * (len0 : Int)
  all_goals try (exfalso; omega)
  all_goals
    first | (have h2 : ¬ a1 < 4096 := by omega) | skip
    have hx0 := HZ.out
    first | (have hx : x = false := HZ.out (by omega)) | skip
    have hxx' := hxx.out
    try subst hx
    clear hmay hx0
    go_enter Try.func6, Try.ntmps6
    go_wp2_with fail
    refine (D1.out).mono ?_
    rintro e v1 ⟨A1, c1, l1, rfl, u1, z1, ok1, sh1, m1, b1⟩
    have X1 := hid (D2.out A1 c1 l1 v1 b1 z1 ok1 (fun j => by rw [m1, E1.out]) u1)
    clear u1 ok1 sh1 m1
    go_wp2_with fail
    refine (X1.out).mono ?_
    rintro e v2 ⟨rfl, b2⟩
    have b12 := below2 b1 b2
    go_wp2_with fail
    refine (D3.out _ _ rfl).mono ?_
    rintro e v3 ⟨A3, c3, rfl, _, b3⟩
    have b13 := below2 b12 b3
    go_wp2_with fail
    refine (D4.out _ _ _).mono ?_
    rintro e v4 ⟨rfl, b4⟩
    have b14 := below2 b13 b4
    go_wp2_with fail
    refine (C1.out _ b14).mono ?_
    rintro e w' ⟨rfl, rfl⟩
    go_wp2_with fail
    try
      refine (C2.out _ b14).mono ?_
      rintro e w' ⟨rfl, rfl⟩
      go_wp2_with fail
    refine (heads _).mono ?_
    rintro e w' ⟨rfl, b5⟩
    go_wp2_with fail
    go_ret
    exact ⟨rfl, below2 b14 b5⟩

/-! ### THE ROW's STEP: WRITTEN OUT: LEAVE IT -/
set_option maxRecDepth 100000 in
theorem lifted (os : Os) (started : os.Started) (H : Type) (enc : TypeId × Value → H) :
    ReturnsInHanded {} Try.checked os 6 .any (Rows.bitsGreatSpec.pre6 enc Try.prog Try.f6 Rows.bitsGreatRow.domain false) (Rows.bitsGreatSpec.post enc Try.prog Try.f6 false true false false) := by
  refine returnsInHanded_of_change (C := Try.checked) own started (by kernel_rfl) Try.func6
    (ChangeSpec.witness6 (enc := enc) (C := Try.checked) false ⟨#[], #[.slice none 0 0, .int .i64 0], []⟩ 8 (by kernel_rfl) (by kernel_rfl) (by kernel_rfl) (by kernel_rfl)) ?_
  intro W base args ds gs before hval0 hW hcnd _
  have hval : ∀ (j : Nat) t v, Try.f6.params[j]? = some t → args[j]? = some v → Value.okWide Try.prog W .any base t v := hval0
  have hW' := hW
  obtain ⟨p, q, hA0, hV, rfl, hfz, hnd⟩ := hW
  have hA : DataW.TrodAll enc Try.prog W 0 (fun _ => true) true Try.f6.params.toList args.toList ds p := hA0
  rw [Try.params6] at hA hval
  obtain ⟨v0, vs0, d0, ds0, p0, q0, hargs, rfl, rfl, h0, r0⟩ := trodAll_cons hA
  obtain ⟨v1, vs1, d1, ds1, p1, q1, rfl, rfl, rfl, h1, r1⟩ := trodAll_cons r0
  obtain ⟨rfl, rfl, rfl⟩ := trodAll_nil r1
  obtain rfl : args = #[v0, v1] := by cases args; simp_all
  obtain ⟨rfl, rfl⟩ := trodVars_none hV
  obtain ⟨a0, len0, cap0, rfl⟩ := okWide_slice Try.underlying22 (hval 0 22 v0 rfl rfl)
  have k0 := h0
  have lt0 : ∀ x ∈ p0, x.block < W.heap.size := by obtain ⟨m, hm⟩ := k0; exact DataW.trod_lt m _ _ _ hm
  obtain ⟨z0, w0⟩ : ∃ zs, IsRow .u64 W a0 len0 cap0 zs := by
    obtain ⟨fuel, hf⟩ := h0
    rcases open_ints Try.underlying22 Try.underlying34 (by kernel_rfl) hf with ⟨hcs, _⟩ | ⟨x, l, c, zs, hcs, _, hl, hm, hz, _, hcell, hwz⟩
    · simp [Value.cells] at hcs
      obtain ⟨rfl, rfl, rfl⟩ := hcs
      exact ⟨[], .inl ⟨rfl, rfl, rfl, rfl⟩⟩
    · simp [Value.cells] at hcs
      obtain ⟨rfl, rfl, rfl⟩ := hcs
      exact ⟨zs, .inr ⟨_, rfl, hl, hm, by simpa using hz, hcell, hwz⟩⟩
  obtain ⟨a1, rfl, rfl, rfl, w1⟩ := open_int Try.underlying3 (hval 1 3 v1 rfl rfl) h1
  clear hA0 hval0
  refine (walk a0 len0 cap0 z0 a1 W w0 w1).mono fun e W' ⟨he, bel⟩ => ?_
  subst he
  exact ⟨_, rfl, _, _, _, [], _, [], hW', trodAll_mk1 (shut_bool Try.underlying4 _), (trodAll_cons_mk (Below.trod laidOut (by kernel_rfl) (of_decide_eq_true (by kernel_rfl)) k0 bel lt0) (trodAll_cons_mk (shut_int Try.underlying3 w1) trodAll_mk0)), rfl, bel.frame _, fun h => by cases h⟩

theorem over : Rows.bitsGreatRow.holds Try.pinned (OpenSpec.ofChange Rows.bitsGreatSpec) :=
  OpenClaim.holds_of_wide 6 Try.f6 rfl rfl rfl rfl rfl rfl rfl ⟨rfl, rfl, rfl, rfl, rfl⟩ rfl rfl rfl rfl rfl (by kernel_rfl) Try.func6 (by kernel_rfl)
    (of_decide_eq_true (by kernel_rfl)) (by unfold Func.isWrapper; first | (rw [if_pos (by decide +kernel)]; kernel_rfl) | (rw [if_neg (by decide +kernel)]; exact ⟨rfl, rfl⟩))
    (fun os started H enc _ => lifted os started H enc)

/-- ████ THE STATEMENT ████ -/
theorem proved : Rows.BitsGreatSaid := over
#print axioms proved
end Go.Proofs.Yteejccppdmjlaaa.bitsGreat
