/- Proves 'DiceBoundsSaid': for every input the Go function DiceBounds returns true, and each argument reads afterwards as it read before. Conditions: none beyond the row's own. -/
import Derived.Test.YtdhapddconoegaaRows
import Derived.WalkKit
import Derived.ProofKit
import Derived.OpenShut
import Derived.ShutString
import Derived.SliceStrings
import Derived.ChangeOld
import Derived.Below
import Derived.Test.YtdhapddconoegaaDicH
namespace Go.Proofs.Ytdhapddconoegaa.diceBounds
open Go.ChangeShapes Go.WideShapes Go.ChangeAt Go.RowKit
open Go.ChangeMaps (open_string shut_string)
set_option linter.unusedVariables false

theorem own : ownKnob Try.prog.godebug = none := by kernel_rfl
theorem laidOut : laidOutB Try.prog = true := by kernel_rfl

/-- WHAT THE WALK IS TOLD OF A SLICE OF INTEGERS THAT CAME IN: it is nil; or it leads to a row of 'cap' cells, the numbers 'zs' (the first 'len' are its elements, the rest its spare room), each fitting its kind. -/
def IsRow (k : IntKind) (w : World) (a : Option Addr) (len cap : Nat) (zs : List Int) : Prop :=
  (a = none ∧ len = 0 ∧ cap = 0 ∧ zs = []) ∨
  ∃ x, a = some x ∧ len ≤ cap ∧ cap ≤ maxLen ∧ zs.length = cap ∧ (∀ i, i < zs.length → w.cell? (x.add i) = some (.int k (zs.getD i 0))) ∧ ∀ n ∈ zs, (Lit.int k n).wf = true

/-! ### STEP 1: THE WALK: the Go text returns true, AND WRITES NOTHING THAT WAS THERE: 'Below w.heap.size w w'' (Derived/Below.lean: '.refl', '.alloc', '.drew', '.setCell' at a new block, '.trans'). Open each 'IsRow' by 'rcases' AHEAD of 'go_enter'; part every test ahead of the walk. -/
set_option maxRecDepth 20000 in
set_option maxHeartbeats 4000000 in
theorem walk (a0 : Int) (a1 : Int) (a2 : Option Addr) (len2 cap2 : Nat) (z2 : List Int) (w : World) (w0 : (Lit.int .u64 a0).wf = true) (w1 : (Lit.int .i64 a1).wf = true) (w2 : IsRow .i64 w a2 len2 cap2 z2) :
    Calls Try.prog 6 #[.agg #[.int .u64 a0], .int .i64 a1, .slice a2 len2 cap2] w fun e w' => e = .returned (.bool true) ∧ Below w.heap.size w w' := by
  obtain ⟨u1, u2⟩ := bounds_u64 w0
  obtain ⟨s, rfl⟩ := Int.eq_ofNat_of_zero_le u1
  obtain ⟨n1, n2⟩ := bounds_i64 w1
  obtain ⟨l, hl, hits, hlc, hcm, hl64⟩ := open_its w2
  subst hl
  have hN : I64 a1 := by unfold I64; omega
  clear w0 w1 w2 u1 hl64
  by_cases hbig : (200 : Int) < (l.length : Int)
  · clear hits
    go_enter Try.func6, Try.ntmps6
    go_wp2_with fail
    refine (heads _).mono ?_
    rintro e w3 ⟨rfl, b3⟩
    go_wp2_with fail
    go_ret
    exact ⟨rfl, (below_alloc w _).trans (b3.mono (below_alloc w _).size)⟩
  have hbig' : (l.length : Int) ≤ 200 := by omega
  have Hi := hid hits
  have C3 := hid (fun w => p_Below s a1 hN w)
  have C5 := hid (fun (X : World) (hX : Below w.heap.size w X) => p_Pick s a2 l.length cap2 l rfl (by omega) w.heap.size X hX.size (Hi.out.below hX (Nat.le_refl _)))
  have hnx := Dic.nx_ne s
  obtain ⟨k0, W0, hk0, hW0, K0⟩ := (St8.nil w).one (s : Int)
  have c0 := K0.out.cell (b := k0) (x := s) (by simp)
  clear hbig hits hN
  by_cases hn1 : a1 < 1
  · rw [show Dic.bel s a1 = 0 by unfold Dic.bel; rw [if_pos hn1], show Dic.belS s a1 = s by unfold Dic.belS; rw [if_pos hn1]] at C3
    go_enter Try.func6, Try.ntmps6
    go_wp2_with fail
    refine (C3.out _).mono ?_
    rintro e Y1 ⟨rfl, b1⟩
    have K0' := K0.out.next b1
    obtain ⟨k1, W1, hk1, hW1, K1⟩ := K0'.one (s : Int)
    clear K0 K0' b1 c0
    have c0 := K1.out.cell (b := k0) (x := s) (by simp)
    have c1 := K1.out.cell (b := k1) (x := s) (by simp)
    go_wp2_with fail
    refine (C5.out _ K1.out.2).mono ?_
    rintro e Y2 ⟨rfl, b2⟩
    have K1' := K1.out.next b2
    obtain ⟨k2, W2, hk2, hW2, K2⟩ := K1'.one (Dic.pickS s l : Int)
    clear K1 K1' b2 c0 c1 C3 C5
    have H2 := hid (Hi.out.below K2.out.2 (Nat.le_refl _))
    go_wp2_with fail
    go_loop [11, 12] (fun sv jv => ∃ k : Nat, sv = .bool (Dic.pos (l.take k)) ∧ jv = .int .i64 k ∧ k ≤ l.length) (fun _ jv => l.length - (intOf jv).toNat)
    case atStart => exact ⟨0, rfl, rfl, Nat.zero_le _⟩
    case round =>
      obtain ⟨k, rfl, rfl, hk⟩ := hrel
      by_cases hlt : k < l.length
      · obtain ⟨ad, x, rfl, _, Hx, hc⟩ := Its.get H2.out hlt
        have Hnext := hid (Dic.pos_take l k x Hx.out)
        have i1 : (0 : Int) ≤ (k : Int) := by omega
        have i2 : (k : Int) < (l.length : Int) := by omega
        cases hp : Dic.pos (l.take k) with
        | true =>
          rw [hp, Bool.true_or] at Hnext
          clear hp
          go_wp2_with fail
          go_round
          case rel => exact ⟨k + 1, by rw [Hnext.out], by go_num, by omega⟩
          case measure => simp [intOf]; omega
        | false =>
          rw [hp, Bool.false_or] at Hnext
          clear hp
          go_wp2_with fail
          go_round
          case rel => exact ⟨k + 1, by rw [Hnext.out], by go_num, by omega⟩
          case measure => simp [intOf]; omega
      · obtain rfl : k = l.length := by omega
        rw [List.take_length]
        cases hp : Dic.pos l with
        | true =>
          obtain ⟨m, x, hm1, hm2, hm3, hm4⟩ := Dic.pick_some s l (by omega) hp
          obtain ⟨ad, y, rfl, _, Hx, hc⟩ := Its.get H2.out hm2
          obtain rfl : x = y := by have := Hx.out; rw [hm3] at this; injection this
          rw [hm1]
          have i1 : (0 : Int) ≤ (m : Int) := by omega
          have i2 : (m : Int) < (l.length : Int) := by omega
          clear hp hm1 hm3
          go_wp2_with fail
          refine (heads _).mono ?_
          rintro e w3 ⟨rfl, b3⟩
          go_wp2_with fail
          go_ret
          exact ⟨rfl, (K2.out.next b3).2⟩
        | false =>
          rw [Dic.pick_none s l hp]
          clear hp
          have i2 : (-1 : Int) < (l.length : Int) := by omega
          go_wp2_with fail
          refine (heads _).mono ?_
          rintro e w3 ⟨rfl, b3⟩
          go_wp2_with fail
          go_ret
          exact ⟨rfl, (K2.out.next b3).2⟩
  · obtain ⟨n, rfl⟩ := Int.eq_ofNat_of_zero_le (show 0 ≤ a1 by omega)
    rw [show Dic.bel s (n : Int) = Dic.num s % n by unfold Dic.bel; rw [if_neg hn1]; rfl, show Dic.belS s (n : Int) = Dic.nx s by unfold Dic.belS; rw [if_neg hn1]] at C3
    have hrl := Nat.mod_lt (Dic.num s) (show 0 < n by omega)
    generalize Dic.num s % n = r at *
    generalize Dic.nx s = s1 at *
    have hne : ¬ ((s1 : Int) = (s : Int)) := by omega
    have hr0 : (0 : Int) ≤ (r : Int) := by omega
    have hr1 : (r : Int) < (n : Int) := by omega
    have hn2 : (1 : Int) ≤ (n : Int) := by omega
    go_enter Try.func6, Try.ntmps6
    go_wp2_with fail
    refine (C3.out _).mono ?_
    rintro e Y1 ⟨rfl, b1⟩
    have K0' := K0.out.next b1
    obtain ⟨k1, W1, hk1, hW1, K1⟩ := K0'.one (s1 : Int)
    clear K0 K0' b1 c0
    have c0 := K1.out.cell (b := k0) (x := s) (by simp)
    have c1 := K1.out.cell (b := k1) (x := s1) (by simp)
    go_wp2_with fail
    refine (C5.out _ K1.out.2).mono ?_
    rintro e Y2 ⟨rfl, b2⟩
    have K1' := K1.out.next b2
    obtain ⟨k2, W2, hk2, hW2, K2⟩ := K1'.one (Dic.pickS s l : Int)
    clear K1 K1' b2 c0 c1 C3 C5
    have H2 := hid (Hi.out.below K2.out.2 (Nat.le_refl _))
    go_wp2_with fail
    go_loop [11, 12] (fun sv jv => ∃ k : Nat, sv = .bool (Dic.pos (l.take k)) ∧ jv = .int .i64 k ∧ k ≤ l.length) (fun _ jv => l.length - (intOf jv).toNat)
    case atStart => exact ⟨0, rfl, rfl, Nat.zero_le _⟩
    case round =>
      obtain ⟨k, rfl, rfl, hk⟩ := hrel
      by_cases hlt : k < l.length
      · obtain ⟨ad, x, rfl, _, Hx, hc⟩ := Its.get H2.out hlt
        have Hnext := hid (Dic.pos_take l k x Hx.out)
        have i1 : (0 : Int) ≤ (k : Int) := by omega
        have i2 : (k : Int) < (l.length : Int) := by omega
        cases hp : Dic.pos (l.take k) with
        | true =>
          rw [hp, Bool.true_or] at Hnext
          clear hp
          go_wp2_with fail
          go_round
          case rel => exact ⟨k + 1, by rw [Hnext.out], by go_num, by omega⟩
          case measure => simp [intOf]; omega
        | false =>
          rw [hp, Bool.false_or] at Hnext
          clear hp
          go_wp2_with fail
          go_round
          case rel => exact ⟨k + 1, by rw [Hnext.out], by go_num, by omega⟩
          case measure => simp [intOf]; omega
      · obtain rfl : k = l.length := by omega
        rw [List.take_length]
        cases hp : Dic.pos l with
        | true =>
          obtain ⟨m, x, hm1, hm2, hm3, hm4⟩ := Dic.pick_some s l (by omega) hp
          obtain ⟨ad, y, rfl, _, Hx, hc⟩ := Its.get H2.out hm2
          obtain rfl : x = y := by have := Hx.out; rw [hm3] at this; injection this
          rw [hm1]
          have i1 : (0 : Int) ≤ (m : Int) := by omega
          have i2 : (m : Int) < (l.length : Int) := by omega
          clear hp hm1 hm3
          go_wp2_with fail
          refine (heads _).mono ?_
          rintro e w3 ⟨rfl, b3⟩
          go_wp2_with fail
          go_ret
          exact ⟨rfl, (K2.out.next b3).2⟩
        | false =>
          rw [Dic.pick_none s l hp]
          clear hp
          have i2 : (-1 : Int) < (l.length : Int) := by omega
          go_wp2_with fail
          refine (heads _).mono ?_
          rintro e w3 ⟨rfl, b3⟩
          go_wp2_with fail
          go_ret
          exact ⟨rfl, (K2.out.next b3).2⟩

/-! ### THE ROW's STEP: WRITTEN OUT: LEAVE IT -/
set_option maxRecDepth 100000 in
theorem lifted (os : Os) (started : os.Started) (H : Type) (enc : TypeId × Value → H) :
    ReturnsInHanded {} Try.checked os 6 .any (Rows.diceBoundsSpec.pre6 enc Try.prog Try.f6 Rows.diceBoundsRow.domain false) (Rows.diceBoundsSpec.post enc Try.prog Try.f6 false true false false) := by
  refine returnsInHanded_of_change (C := Try.checked) own started (by kernel_rfl) Try.func6
    (ChangeSpec.witness6 (enc := enc) (C := Try.checked) false ⟨#[], #[.agg #[.int .u64 0], .int .i64 0, .slice none 0 0], []⟩ 8 (by kernel_rfl) (by kernel_rfl) (by kernel_rfl) (by kernel_rfl)) ?_
  intro W base args ds gs before hval0 hW hcnd _
  have hval : ∀ (j : Nat) t v, Try.f6.params[j]? = some t → args[j]? = some v → Value.okWide Try.prog W .any base t v := hval0
  have hW' := hW
  obtain ⟨p, q, hA0, hV, rfl, hfz, hnd⟩ := hW
  have hA : DataW.TrodAll enc Try.prog W 0 (fun _ => true) true Try.f6.params.toList args.toList ds p := hA0
  rw [Try.params6] at hA hval
  obtain ⟨v0, vs0, d0, ds0, p0, q0, hargs, rfl, rfl, h0, r0⟩ := trodAll_cons hA
  obtain ⟨v1, vs1, d1, ds1, p1, q1, rfl, rfl, rfl, h1, r1⟩ := trodAll_cons r0
  obtain ⟨v2, vs2, d2, ds2, p2, q2, rfl, rfl, rfl, h2, r2⟩ := trodAll_cons r1
  obtain ⟨rfl, rfl, rfl⟩ := trodAll_nil r2
  obtain rfl : args = #[v0, v1, v2] := by cases args; simp_all
  obtain ⟨rfl, rfl⟩ := trodVars_none hV
  have k0 := h0
  have lt0 : ∀ x ∈ p0, x.block < W.heap.size := by obtain ⟨m, hm⟩ := k0; exact DataW.trod_lt m _ _ _ hm
  obtain ⟨a0, rfl, w0⟩ := open_agg1 Try.underlying24 (by kernel_rfl) (by kernel_rfl) Try.underlying22 (hval 0 24 v0 rfl rfl) h0
  obtain ⟨a1, rfl, rfl, rfl, w1⟩ := open_int Try.underlying3 (hval 1 3 v1 rfl rfl) h1
  obtain ⟨a2, len2, cap2, rfl⟩ := okWide_slice Try.underlying25 (hval 2 25 v2 rfl rfl)
  have k2 := h2
  have lt2 : ∀ x ∈ p2, x.block < W.heap.size := by obtain ⟨m, hm⟩ := k2; exact DataW.trod_lt m _ _ _ hm
  obtain ⟨z2, w2⟩ : ∃ zs, IsRow .i64 W a2 len2 cap2 zs := by
    obtain ⟨fuel, hf⟩ := h2
    rcases open_ints Try.underlying25 Try.underlying3 (by kernel_rfl) hf with ⟨hcs, _⟩ | ⟨x, l, c, zs, hcs, _, hl, hm, hz, _, hcell, hwz⟩
    · simp [Value.cells] at hcs
      obtain ⟨rfl, rfl, rfl⟩ := hcs
      exact ⟨[], .inl ⟨rfl, rfl, rfl, rfl⟩⟩
    · simp [Value.cells] at hcs
      obtain ⟨rfl, rfl, rfl⟩ := hcs
      exact ⟨zs, .inr ⟨_, rfl, hl, hm, by simpa using hz, hcell, hwz⟩⟩
  clear hA0 hval0
  refine (walk a0 a1 a2 len2 cap2 z2 W w0 w1 w2).mono fun e W' ⟨he, bel⟩ => ?_
  subst he
  exact ⟨_, rfl, _, _, _, [], _, [], hW', trodAll_mk1 (shut_bool Try.underlying4 _), (trodAll_cons_mk (Below.trod laidOut (by kernel_rfl) (of_decide_eq_true (by kernel_rfl)) k0 bel lt0) (trodAll_cons_mk (shut_int Try.underlying3 w1) (trodAll_cons_mk (Below.trod laidOut (by kernel_rfl) (of_decide_eq_true (by kernel_rfl)) k2 bel lt2) trodAll_mk0))), rfl, bel.frame _, fun h => by cases h⟩

theorem over : Rows.diceBoundsRow.holds Try.pinned (OpenSpec.ofChange Rows.diceBoundsSpec) :=
  OpenClaim.holds_of_wide 6 Try.f6 rfl rfl rfl rfl rfl rfl rfl ⟨rfl, rfl, rfl, rfl, rfl⟩ rfl rfl rfl rfl rfl (by kernel_rfl) Try.func6 (by kernel_rfl)
    (of_decide_eq_true (by kernel_rfl)) (by unfold Func.isWrapper; first | (rw [if_pos (by decide +kernel)]; kernel_rfl) | (rw [if_neg (by decide +kernel)]; exact ⟨rfl, rfl⟩))
    (fun os started H enc _ => lifted os started H enc)

/-- ████ THE STATEMENT ████ -/
theorem proved : Rows.DiceBoundsSaid := over
#print axioms proved
end Go.Proofs.Ytdhapddconoegaa.diceBounds
