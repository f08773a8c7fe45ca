/- Proves 'DiceTellsSaid': for every input the Go function DiceTells returns true, and each argument reads afterwards as it read before. Conditions: none beyond the row's own. -/
import Derived.Test.YtdhapddconoegaaRows
import Derived.WalkKit
import Derived.ProofKit
import Derived.OpenShut
import Derived.ShutString
import Derived.SliceStrings
import Derived.ChangeOld
import Derived.Below
import Derived.Test.YtdhapddconoegaaDicH
namespace Go.Proofs.Ytdhapddconoegaa.diceTells
open Go.ChangeShapes Go.WideShapes Go.ChangeAt Go.RowKit
open Go.ChangeMaps (open_string shut_string)
set_option linter.unusedVariables false

theorem own : ownKnob Try.prog.godebug = none := by kernel_rfl
theorem laidOut : laidOutB Try.prog = true := by kernel_rfl

/-- WHAT THE WALK IS TOLD OF A SLICE OF INTEGERS THAT CAME IN: it is nil; or it leads to a row of 'cap' cells, the numbers 'zs' (the first 'len' are its elements, the rest its spare room), each fitting its kind. -/
def IsRow (k : IntKind) (w : World) (a : Option Addr) (len cap : Nat) (zs : List Int) : Prop :=
  (a = none ∧ len = 0 ∧ cap = 0 ∧ zs = []) ∨
  ∃ x, a = some x ∧ len ≤ cap ∧ cap ≤ maxLen ∧ zs.length = cap ∧ (∀ i, i < zs.length → w.cell? (x.add i) = some (.int k (zs.getD i 0))) ∧ ∀ n ∈ zs, (Lit.int k n).wf = true

theorem s7 {w X : World} {k0 k1 k2 k3 k4 k5 k6 : Nat} {x0 x1 x2 x3 x4 x5 x6 : Int} (h : St8 w X [(k6, x6), (k5, x5), (k4, x4), (k3, x3), (k2, x2), (k1, x1), (k0, x0)]) : X.cell? ⟨k0, 0, none⟩ = some (.int .u64 x0) ∧ X.cell? ⟨k1, 0, none⟩ = some (.int .u64 x1) ∧ X.cell? ⟨k2, 0, none⟩ = some (.int .u64 x2) ∧ X.cell? ⟨k3, 0, none⟩ = some (.int .u64 x3) ∧ X.cell? ⟨k4, 0, none⟩ = some (.int .u64 x4) ∧ X.cell? ⟨k5, 0, none⟩ = some (.int .u64 x5) ∧ X.cell? ⟨k6, 0, none⟩ = some (.int .u64 x6) :=
  ⟨h.cell (by simp), h.cell (by simp), h.cell (by simp), h.cell (by simp), h.cell (by simp), h.cell (by simp), h.cell (by simp)⟩

/-! ### STEP 1: THE WALK: the Go text returns true, AND WRITES NOTHING THAT WAS THERE: 'Below w.heap.size w w'' (Derived/Below.lean: '.refl', '.alloc', '.drew', '.setCell' at a new block, '.trans'). Open each 'IsRow' by 'rcases' AHEAD of 'go_enter'; part every test ahead of the walk. -/
set_option maxRecDepth 20000 in
set_option maxHeartbeats 4000000 in
theorem walk (a0 : Int) (a1 : Int) (a2 : Option Addr) (len2 cap2 : Nat) (z2 : List Int) (w : World) (w0 : (Lit.int .u64 a0).wf = true) (w1 : (Lit.int .i64 a1).wf = true) (w2 : IsRow .i64 w a2 len2 cap2 z2) :
    Calls Try.prog 3 #[.agg #[.int .u64 a0], .int .i64 a1, .slice a2 len2 cap2] w fun e w' => e = .returned (.bool true) ∧ Below w.heap.size w w' := by
  obtain ⟨u1, u2⟩ := bounds_u64 w0
  obtain ⟨s, rfl⟩ := Int.eq_ofNat_of_zero_le u1
  obtain ⟨n1, n2⟩ := bounds_i64 w1
  obtain ⟨l, hl, hits, hlc, hcm, hl64⟩ := open_its w2
  subst hl
  have hN : I64 a1 := by unfold I64; omega
  clear w0 w1 w2 u1 hl64
  by_cases hbig : (200 : Int) < (l.length : Int)
  · clear hits
    go_enter Try.func3, Try.ntmps3
    go_wp2_with fail
    refine (heads _).mono ?_
    rintro e w3 ⟨rfl, b3⟩
    go_wp2_with fail
    go_ret
    exact ⟨rfl, (below_alloc w _).trans (b3.mono (below_alloc w _).size)⟩
  have hbig' : (l.length : Int) ≤ 200 := by omega
  have Hi := hid hits
  have C1 := hid (fun w => p_Next s w)
  have C2 := hid (fun w => r_Next s w)
  have C3 := hid (fun w => p_Below s a1 hN w)
  have C4 := hid (fun w => r_Below s a1 hN w)
  have C5 := hid (fun (X : World) (hX : Below w.heap.size w X) => p_Pick s a2 l.length cap2 l rfl (by omega) w.heap.size X hX.size (Hi.out.below hX (Nat.le_refl _)))
  have C6 := hid (fun (X : World) (hX : Below w.heap.size w X) => r_Pick s a2 l.length cap2 l rfl (by omega) w.heap.size X hX.size (Hi.out.below hX (Nat.le_refl _)))
  have C7 := hid (fun w => p_New s w)
  generalize Dic.nx s = s1 at *
  generalize Dic.num s = v1 at *
  generalize Dic.bel s a1 = v2 at *
  generalize Dic.belS s a1 = s2 at *
  generalize Dic.pick s l = v3 at *
  generalize Dic.pickS s l = s3 at *
  obtain ⟨k0, W0, hk0, hW0, K0⟩ := (St8.nil w).one (s : Int)
  have c0 := K0.out.cell (b := k0) (x := s) (by simp)
  clear hbig hits hN
  go_enter Try.func3, Try.ntmps3
  go_wp2_with fail
  refine (C1.out _).mono ?_
  rintro e Y1 ⟨rfl, b1⟩
  have K0' := K0.out.next b1
  obtain ⟨k1, W1, hk1, hW1, K1⟩ := K0'.one (s1 : Int)
  clear K0 K0' b1 c0
  have c0 := K1.out.cell (b := k0) (x := s) (by simp)
  go_wp2_with fail
  refine (C2.out _).mono ?_
  rintro e Y2 ⟨rfl, b2⟩
  have K1' := K1.out.next b2
  obtain ⟨k2, W2, hk2, hW2, K2⟩ := K1'.one (s1 : Int)
  clear K1 K1' b2 c0
  have c0 := K2.out.cell (b := k0) (x := s) (by simp)
  go_wp2_with fail
  refine (C3.out _).mono ?_
  rintro e Y3 ⟨rfl, b3⟩
  have K2' := K2.out.next b3
  obtain ⟨k3, W3, hk3, hW3, K3⟩ := K2'.one (s2 : Int)
  clear K2 K2' b3 c0
  have c0 := K3.out.cell (b := k0) (x := s) (by simp)
  go_wp2_with fail
  refine (C4.out _).mono ?_
  rintro e Y4 ⟨rfl, b4⟩
  have K3' := K3.out.next b4
  obtain ⟨k4, W4, hk4, hW4, K4⟩ := K3'.one (s2 : Int)
  clear K3 K3' b4 c0
  have c0 := K4.out.cell (b := k0) (x := s) (by simp)
  go_wp2_with fail
  refine (C5.out _ K4.out.2).mono ?_
  rintro e Y5 ⟨rfl, b5⟩
  have K4' := K4.out.next b5
  obtain ⟨k5, W5, hk5, hW5, K5⟩ := K4'.one (s3 : Int)
  clear K4 K4' b5 c0
  have c0 := K5.out.cell (b := k0) (x := s) (by simp)
  go_wp2_with fail
  refine (C6.out _ K5.out.2).mono ?_
  rintro e Y6 ⟨rfl, b6⟩
  have K5' := K5.out.next b6
  obtain ⟨k6, W6, hk6, hW6, K6⟩ := K5'.one (s3 : Int)
  clear K5 K5' b6 c0
  have hK := hid K6.out.drew
  have hS2 := s7 hK.out
  clear K6 C1 C2 C3 C4 C5 C6 Hi
  go_wp2_with fail
  go_region_held3 (fun X => X.cell? ⟨k0, 0, none⟩ = some (.int .u64 s) ∧ X.cell? ⟨k1, 0, none⟩ = some (.int .u64 s1) ∧ X.cell? ⟨k2, 0, none⟩ = some (.int .u64 s1) ∧ X.cell? ⟨k3, 0, none⟩ = some (.int .u64 s2) ∧ X.cell? ⟨k4, 0, none⟩ = some (.int .u64 s2) ∧ X.cell? ⟨k5, 0, none⟩ = some (.int .u64 s3) ∧ X.cell? ⟨k6, 0, none⟩ = some (.int .u64 s3)) (exact hS2) (first
    | (go_at_call 15; refine (C7.out _).mono ?_; rintro e w5 ⟨rfl, b5⟩; have hK := hid (hK.out.next b5); have hS2 := s7 hK.out)
    | (go_at_call 8; refine (heads _).mono ?_; rintro e w5 ⟨rfl, b5⟩; have hK := hid (hK.out.next b5); have hS2 := s7 hK.out))
  go_wp2_with fail
  go_ret
  exact ⟨rfl, hK.out.2⟩

/-! ### THE ROW's STEP: WRITTEN OUT: LEAVE IT -/
set_option maxRecDepth 100000 in
theorem lifted (os : Os) (started : os.Started) (H : Type) (enc : TypeId × Value → H) :
    ReturnsInHanded {} Try.checked os 3 .any (Rows.diceTellsSpec.pre6 enc Try.prog Try.f3 Rows.diceTellsRow.domain false) (Rows.diceTellsSpec.post enc Try.prog Try.f3 false true false false) := by
  refine returnsInHanded_of_change (C := Try.checked) own started (by kernel_rfl) Try.func3
    (ChangeSpec.witness6 (enc := enc) (C := Try.checked) false ⟨#[], #[.agg #[.int .u64 0], .int .i64 0, .slice none 0 0], []⟩ 8 (by kernel_rfl) (by kernel_rfl) (by kernel_rfl) (by kernel_rfl)) ?_
  intro W base args ds gs before hval0 hW hcnd _
  have hval : ∀ (j : Nat) t v, Try.f3.params[j]? = some t → args[j]? = some v → Value.okWide Try.prog W .any base t v := hval0
  have hW' := hW
  obtain ⟨p, q, hA0, hV, rfl, hfz, hnd⟩ := hW
  have hA : DataW.TrodAll enc Try.prog W 0 (fun _ => true) true Try.f3.params.toList args.toList ds p := hA0
  rw [Try.params3] at hA hval
  obtain ⟨v0, vs0, d0, ds0, p0, q0, hargs, rfl, rfl, h0, r0⟩ := trodAll_cons hA
  obtain ⟨v1, vs1, d1, ds1, p1, q1, rfl, rfl, rfl, h1, r1⟩ := trodAll_cons r0
  obtain ⟨v2, vs2, d2, ds2, p2, q2, rfl, rfl, rfl, h2, r2⟩ := trodAll_cons r1
  obtain ⟨rfl, rfl, rfl⟩ := trodAll_nil r2
  obtain rfl : args = #[v0, v1, v2] := by cases args; simp_all
  obtain ⟨rfl, rfl⟩ := trodVars_none hV
  have k0 := h0
  have lt0 : ∀ x ∈ p0, x.block < W.heap.size := by obtain ⟨m, hm⟩ := k0; exact DataW.trod_lt m _ _ _ hm
  obtain ⟨a0, rfl, w0⟩ := open_agg1 Try.underlying24 (by kernel_rfl) (by kernel_rfl) Try.underlying22 (hval 0 24 v0 rfl rfl) h0
  obtain ⟨a1, rfl, rfl, rfl, w1⟩ := open_int Try.underlying3 (hval 1 3 v1 rfl rfl) h1
  obtain ⟨a2, len2, cap2, rfl⟩ := okWide_slice Try.underlying25 (hval 2 25 v2 rfl rfl)
  have k2 := h2
  have lt2 : ∀ x ∈ p2, x.block < W.heap.size := by obtain ⟨m, hm⟩ := k2; exact DataW.trod_lt m _ _ _ hm
  obtain ⟨z2, w2⟩ : ∃ zs, IsRow .i64 W a2 len2 cap2 zs := by
    obtain ⟨fuel, hf⟩ := h2
    rcases open_ints Try.underlying25 Try.underlying3 (by kernel_rfl) hf with ⟨hcs, _⟩ | ⟨x, l, c, zs, hcs, _, hl, hm, hz, _, hcell, hwz⟩
    · simp [Value.cells] at hcs
      obtain ⟨rfl, rfl, rfl⟩ := hcs
      exact ⟨[], .inl ⟨rfl, rfl, rfl, rfl⟩⟩
    · simp [Value.cells] at hcs
      obtain ⟨rfl, rfl, rfl⟩ := hcs
      exact ⟨zs, .inr ⟨_, rfl, hl, hm, by simpa using hz, hcell, hwz⟩⟩
  clear hA0 hval0
  refine (walk a0 a1 a2 len2 cap2 z2 W w0 w1 w2).mono fun e W' ⟨he, bel⟩ => ?_
  subst he
  exact ⟨_, rfl, _, _, _, [], _, [], hW', trodAll_mk1 (shut_bool Try.underlying4 _), (trodAll_cons_mk (Below.trod laidOut (by kernel_rfl) (of_decide_eq_true (by kernel_rfl)) k0 bel lt0) (trodAll_cons_mk (shut_int Try.underlying3 w1) (trodAll_cons_mk (Below.trod laidOut (by kernel_rfl) (of_decide_eq_true (by kernel_rfl)) k2 bel lt2) trodAll_mk0))), rfl, bel.frame _, fun h => by cases h⟩

theorem over : Rows.diceTellsRow.holds Try.pinned (OpenSpec.ofChange Rows.diceTellsSpec) :=
  OpenClaim.holds_of_wide 3 Try.f3 rfl rfl rfl rfl rfl rfl rfl ⟨rfl, rfl, rfl, rfl, rfl⟩ rfl rfl rfl rfl rfl (by kernel_rfl) Try.func3 (by kernel_rfl)
    (of_decide_eq_true (by kernel_rfl)) (by unfold Func.isWrapper; first | (rw [if_pos (by decide +kernel)]; kernel_rfl) | (rw [if_neg (by decide +kernel)]; exact ⟨rfl, rfl⟩))
    (fun os started H enc _ => lifted os started H enc)

/-- ████ THE STATEMENT ████ -/
theorem proved : Rows.DiceTellsSaid := over
#print axioms proved
end Go.Proofs.Ytdhapddconoegaa.diceTells
