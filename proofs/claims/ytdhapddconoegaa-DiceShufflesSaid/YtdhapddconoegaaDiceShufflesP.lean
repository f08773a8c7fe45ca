/- Proves 'DiceShufflesSaid': for every input the Go function DiceShuffles returns true, and each argument reads afterwards as it read before. Conditions: none beyond the row's own. -/
import Derived.Test.YtdhapddconoegaaRows
import Derived.WalkKit
import Derived.ProofKit
import Derived.OpenShut
import Derived.ShutString
import Derived.SliceStrings
import Derived.ChangeOld
import Derived.Below
import Derived.Test.YtdhapddconoegaaDicI
namespace Go.Proofs.Ytdhapddconoegaa.diceShuffles
open Go.ChangeShapes Go.WideShapes Go.ChangeAt Go.RowKit
open Go.ChangeMaps (open_string shut_string)
set_option linter.unusedVariables false

theorem own : ownKnob Try.prog.godebug = none := by kernel_rfl
theorem laidOut : laidOutB Try.prog = true := by kernel_rfl

/-- WHAT THE WALK IS TOLD OF A SLICE OF INTEGERS THAT CAME IN: it is nil; or it leads to a row of 'cap' cells, the numbers 'zs' (the first 'len' are its elements, the rest its spare room), each fitting its kind. -/
def IsRow (k : IntKind) (w : World) (a : Option Addr) (len cap : Nat) (zs : List Int) : Prop :=
  (a = none ∧ len = 0 ∧ cap = 0 ∧ zs = []) ∨
  ∃ x, a = some x ∧ len ≤ cap ∧ cap ≤ maxLen ∧ zs.length = cap ∧ (∀ i, i < zs.length → w.cell? (x.add i) = some (.int k (zs.getD i 0))) ∧ ∀ n ∈ zs, (Lit.int k n).wf = true

/-! ### STEP 1: THE WALK: the Go text returns true, AND WRITES NOTHING THAT WAS THERE: 'Below w.heap.size w w'' (Derived/Below.lean: '.refl', '.alloc', '.drew', '.setCell' at a new block, '.trans'). Open each 'IsRow' by 'rcases' AHEAD of 'go_enter'; part every test ahead of the walk. -/
set_option maxRecDepth 20000 in
set_option maxHeartbeats 4000000 in
theorem walk (a0 : Int) (a1 : Int) (w : World) (w0 : (Lit.int .u64 a0).wf = true) (w1 : (Lit.int .i64 a1).wf = true) :
    Calls Try.prog 4 #[.agg #[.int .u64 a0], .int .i64 a1] w fun e w' => e = .returned (.bool true) ∧ Below w.heap.size w w' := by
  obtain ⟨u1, u2⟩ := bounds_u64 w0
  obtain ⟨s, rfl⟩ := Int.eq_ofNat_of_zero_le u1
  obtain ⟨n1, n2⟩ := bounds_i64 w1
  have hN : I64 a1 := by unfold I64; omega
  clear w0 w1 u1
  by_cases hbig : 300 < a1 ∧ a1 ≤ 10000
  · obtain ⟨g1, g2⟩ := hbig
    go_enter Try.func4, Try.ntmps4
    go_wp2_with fail
    refine (heads _).mono ?_
    rintro e w3 ⟨rfl, b3⟩
    go_wp2_with fail
    go_ret
    exact ⟨rfl, (below_alloc w _).trans (b3.mono (below_alloc w _).size)⟩
  have C1 := hid (fun w => p_Shuffle s a1 hN w)
  have C2 := hid (fun w => r_Shuffle s a1 hN w)
  have hE := Dic.shuf_each s a1
  have hL : (Dic.shuf s a1).length ≤ 300 := Dic.shuf_few s a1 hbig
  obtain ⟨L, hLe⟩ : ∃ L, Dic.shuf s a1 = L := ⟨_, rfl⟩
  rw [hLe] at C1 C2 hE hL
  have HE := hid hE
  clear hLe hE hN
  generalize Dic.shufS s a1 = s1 at *
  unfold ShRet at C1 C2
  have HI := hid (fun (A A' : Option Addr) (c c' : Nat) (X : World) (h : Its X X.heap.size A L) (h' : Its X X.heap.size A' L) => p_Ints A A' L.length L.length c c' L L rfl rfl X _ _ h h' (by unfold maxLen; omega))
  rw [decide_eq_true rfl] at HI
  unfold BoolDraw at HI
  obtain ⟨k0, W0, hk0, hW0, K0⟩ := (St8.nil w).one (s : Int)
  have c0 := K0.out.cell (b := k0) (x := s) (by simp)
  have hbt : ¬ (300 < a1) ∨ ¬ (a1 ≤ 10000) := by omega
  rcases hbt with hbt | hbt
  · go_enter Try.func4, Try.ntmps4
    go_wp2_with fail
    refine (C1.out _).mono ?_
    rintro e Y1 ⟨A, cA, rfl, hA, b1⟩
    have K0' := K0.out.next b1
    obtain ⟨k1, W1, hk1, hW1, K1⟩ := K0'.one (s1 : Int)
    clear K0 K0' b1 c0
    have c0 := K1.out.cell (b := k0) (x := s) (by simp)
    go_wp2_with fail
    refine (C2.out _).mono ?_
    rintro e Y2 ⟨A', cA', rfl, hA', b2⟩
    have hA1 := below_alloc Y1 (.cells #[.int .u64 (s1 : Int)] 24)
    rw [hW1] at hA1
    have I1 := its_next (its_next hA hA1) b2
    have K1' := K1.out.next b2
    obtain ⟨k2, W2, hk2, hW2, K2⟩ := K1'.one (s1 : Int)
    have hA2 := below_alloc Y2 (.cells #[.int .u64 (s1 : Int)] 24)
    rw [hW2] at hA2
    have I2 := hid (its_next I1 hA2)
    have I3 := hid (its_next hA' hA2)
    clear K1 K1' b2 c0 hA1 hA2 I1 hA hA' C1 C2
    have c1 := K2.out.cell (b := k1) (x := s1) (by simp)
    have c2 := K2.out.cell (b := k2) (x := s1) (by simp)
    go_wp2_with fail
    refine (HI.out _ _ _ _ _ I2.out I3.out).mono ?_
    rintro e X ⟨rfl, m, hX⟩
    have K3 := hid (show St8 w X [(k2, s1), (k1, s1), (k0, s)] by rw [hX]; exact ⟨K2.out.1, below_drewN K2.out.2 m⟩)
    have I4 := hid (show Its X X.heap.size A L by rw [hX]; exact I2.out)
    have c1 := K3.out.cell (b := k1) (x := s1) (by simp)
    have c2 := K3.out.cell (b := k2) (x := s1) (by simp)
    clear hX K2 I2 I3 HI
    obtain ⟨i0, hi, hz0, hz1, hz2⟩ := info_parts Try.info_bool
    have hb2 : i0.bytes * L.length ≤ 281474976710656 := by rw [hz2]; omega
    have hb3 : L.length ≤ maxLen := by unfold maxLen; omega
    go_wp2_with (at_make; refine wpList_make_full _ rfl _ _ 37 rfl X.heap.size 4 i0 (.bool false) 1 Try.underlying37 hi hz0 hz1 .i64 .i64 _ _ L.length rfl rfl rfl rfl hb2 hb3 (Nat.le_refl _) ?_; intro w1 hown hgrow)
    have R1 : Hid (Br w1 X.heap.size X.heap.size L.length (sn L 0)) := hid (by
      unfold Br
      rw [made_bool] at hown
      rw [sn_zero, List.map_replicate]
      exact hown)
    have B1 : Hid (Below X.heap.size X w1) := hid ((Below.refl _ _).grown hgrow (Nat.le_refl _) (fun k hk => by cases hk))
    clear hown hgrow c1 c2
    go_loopw [10] (fun iv wr => ∃ k : Nat, iv = .int .i64 k ∧ k ≤ L.length ∧ Hid (Br wr X.heap.size X.heap.size L.length (sn L k)) ∧ Hid (Below X.heap.size X wr)) (fun iv _ => L.length - (intOf iv).toNat)
    case atStart => exact ⟨0, rfl, Nat.zero_le _, R1, B1⟩
    case round =>
      clear R1 B1
      obtain ⟨k, rfl, hk, R1, B1⟩ := hrel
      by_cases hlt : k < L.length
      · obtain ⟨m, hm1, hm2, hm3⟩ := each_new HE.out k hlt
        obtain ⟨ad, y, rfl, _, Hx, hc⟩ := Its.get (I4.out.below B1.out (Nat.le_refl _)) hlt
        obtain rfl : (m : Int) = y := by have := Hx.out; rw [hm1] at this; injection this
        have Hnext := hid (sn_next L k m hm1)
        have cm := R1.out.cell hm2
        rw [sn_get L k m hm2, hm3] at cm
        have fm := R1.out.free m
        have R2 := hid (R1.out.set m true)
        rw [Hnext.out] at R2
        have B2 := hid (B1.out.setCell (p := ⟨X.heap.size, m, none⟩) (Nat.le_refl _) (.bool true))
        have i1 : (0 : Int) ≤ (k : Int) := by omega
        have i2 : (k : Int) < (L.length : Int) := by omega
        have i3 : (0 : Int) ≤ (m : Int) := by omega
        have i4 : (m : Int) < (L.length : Int) := by omega
        clear hm1 hm3 R1 B1
        go_wp2_with fail
        exact ⟨⟨k + 1, by go_num, by omega, R2, B2⟩, by simp [intOf]; omega⟩
      · obtain rfl : k = L.length := by omega
        go_wp2_with fail
        refine (heads _).mono ?_
        rintro e w3 ⟨rfl, b3⟩
        go_wp2_with fail
        go_ret
        exact ⟨rfl, (K3.out.2.trans (B1.out.mono K3.out.2.size)).trans (b3.mono (Nat.le_trans K3.out.2.size B1.out.size))⟩
  · have hb0 : (10000 : Int) < a1 := by omega
    have hb1 : (300 : Int) < a1 := by omega
    clear hbt
    go_enter Try.func4, Try.ntmps4
    go_wp2_with fail
    refine (C1.out _).mono ?_
    rintro e Y1 ⟨A, cA, rfl, hA, b1⟩
    have K0' := K0.out.next b1
    obtain ⟨k1, W1, hk1, hW1, K1⟩ := K0'.one (s1 : Int)
    clear K0 K0' b1 c0
    have c0 := K1.out.cell (b := k0) (x := s) (by simp)
    go_wp2_with fail
    refine (C2.out _).mono ?_
    rintro e Y2 ⟨A', cA', rfl, hA', b2⟩
    have hA1 := below_alloc Y1 (.cells #[.int .u64 (s1 : Int)] 24)
    rw [hW1] at hA1
    have I1 := its_next (its_next hA hA1) b2
    have K1' := K1.out.next b2
    obtain ⟨k2, W2, hk2, hW2, K2⟩ := K1'.one (s1 : Int)
    have hA2 := below_alloc Y2 (.cells #[.int .u64 (s1 : Int)] 24)
    rw [hW2] at hA2
    have I2 := hid (its_next I1 hA2)
    have I3 := hid (its_next hA' hA2)
    clear K1 K1' b2 c0 hA1 hA2 I1 hA hA' C1 C2
    have c1 := K2.out.cell (b := k1) (x := s1) (by simp)
    have c2 := K2.out.cell (b := k2) (x := s1) (by simp)
    go_wp2_with fail
    refine (HI.out _ _ _ _ _ I2.out I3.out).mono ?_
    rintro e X ⟨rfl, m, hX⟩
    have K3 := hid (show St8 w X [(k2, s1), (k1, s1), (k0, s)] by rw [hX]; exact ⟨K2.out.1, below_drewN K2.out.2 m⟩)
    have I4 := hid (show Its X X.heap.size A L by rw [hX]; exact I2.out)
    have c1 := K3.out.cell (b := k1) (x := s1) (by simp)
    have c2 := K3.out.cell (b := k2) (x := s1) (by simp)
    clear hX K2 I2 I3 HI
    obtain ⟨i0, hi, hz0, hz1, hz2⟩ := info_parts Try.info_bool
    have hb2 : i0.bytes * L.length ≤ 281474976710656 := by rw [hz2]; omega
    have hb3 : L.length ≤ maxLen := by unfold maxLen; omega
    go_wp2_with (at_make; refine wpList_make_full _ rfl _ _ 37 rfl X.heap.size 4 i0 (.bool false) 1 Try.underlying37 hi hz0 hz1 .i64 .i64 _ _ L.length rfl rfl rfl rfl hb2 hb3 (Nat.le_refl _) ?_; intro w1 hown hgrow)
    have R1 : Hid (Br w1 X.heap.size X.heap.size L.length (sn L 0)) := hid (by
      unfold Br
      rw [made_bool] at hown
      rw [sn_zero, List.map_replicate]
      exact hown)
    have B1 : Hid (Below X.heap.size X w1) := hid ((Below.refl _ _).grown hgrow (Nat.le_refl _) (fun k hk => by cases hk))
    clear hown hgrow c1 c2
    go_loopw [10] (fun iv wr => ∃ k : Nat, iv = .int .i64 k ∧ k ≤ L.length ∧ Hid (Br wr X.heap.size X.heap.size L.length (sn L k)) ∧ Hid (Below X.heap.size X wr)) (fun iv _ => L.length - (intOf iv).toNat)
    case atStart => exact ⟨0, rfl, Nat.zero_le _, R1, B1⟩
    case round =>
      clear R1 B1
      obtain ⟨k, rfl, hk, R1, B1⟩ := hrel
      by_cases hlt : k < L.length
      · obtain ⟨m, hm1, hm2, hm3⟩ := each_new HE.out k hlt
        obtain ⟨ad, y, rfl, _, Hx, hc⟩ := Its.get (I4.out.below B1.out (Nat.le_refl _)) hlt
        obtain rfl : (m : Int) = y := by have := Hx.out; rw [hm1] at this; injection this
        have Hnext := hid (sn_next L k m hm1)
        have cm := R1.out.cell hm2
        rw [sn_get L k m hm2, hm3] at cm
        have fm := R1.out.free m
        have R2 := hid (R1.out.set m true)
        rw [Hnext.out] at R2
        have B2 := hid (B1.out.setCell (p := ⟨X.heap.size, m, none⟩) (Nat.le_refl _) (.bool true))
        have i1 : (0 : Int) ≤ (k : Int) := by omega
        have i2 : (k : Int) < (L.length : Int) := by omega
        have i3 : (0 : Int) ≤ (m : Int) := by omega
        have i4 : (m : Int) < (L.length : Int) := by omega
        clear hm1 hm3 R1 B1
        go_wp2_with fail
        exact ⟨⟨k + 1, by go_num, by omega, R2, B2⟩, by simp [intOf]; omega⟩
      · obtain rfl : k = L.length := by omega
        go_wp2_with fail
        refine (heads _).mono ?_
        rintro e w3 ⟨rfl, b3⟩
        go_wp2_with fail
        go_ret
        exact ⟨rfl, (K3.out.2.trans (B1.out.mono K3.out.2.size)).trans (b3.mono (Nat.le_trans K3.out.2.size B1.out.size))⟩

/-! ### THE ROW's STEP: WRITTEN OUT: LEAVE IT -/
set_option maxRecDepth 100000 in
theorem lifted (os : Os) (started : os.Started) (H : Type) (enc : TypeId × Value → H) :
    ReturnsInHanded {} Try.checked os 4 .any (Rows.diceShufflesSpec.pre6 enc Try.prog Try.f4 Rows.diceShufflesRow.domain false) (Rows.diceShufflesSpec.post enc Try.prog Try.f4 false true false false) := by
  refine returnsInHanded_of_change (C := Try.checked) own started (by kernel_rfl) Try.func4
    (ChangeSpec.witness6 (enc := enc) (C := Try.checked) false ⟨#[], #[.agg #[.int .u64 0], .int .i64 0], []⟩ 8 (by kernel_rfl) (by kernel_rfl) (by kernel_rfl) (by kernel_rfl)) ?_
  intro W base args ds gs before hval0 hW hcnd _
  have hval : ∀ (j : Nat) t v, Try.f4.params[j]? = some t → args[j]? = some v → Value.okWide Try.prog W .any base t v := hval0
  have hW' := hW
  obtain ⟨p, q, hA0, hV, rfl, hfz, hnd⟩ := hW
  have hA : DataW.TrodAll enc Try.prog W 0 (fun _ => true) true Try.f4.params.toList args.toList ds p := hA0
  rw [Try.params4] at hA hval
  obtain ⟨v0, vs0, d0, ds0, p0, q0, hargs, rfl, rfl, h0, r0⟩ := trodAll_cons hA
  obtain ⟨v1, vs1, d1, ds1, p1, q1, rfl, rfl, rfl, h1, r1⟩ := trodAll_cons r0
  obtain ⟨rfl, rfl, rfl⟩ := trodAll_nil r1
  obtain rfl : args = #[v0, v1] := by cases args; simp_all
  obtain ⟨rfl, rfl⟩ := trodVars_none hV
  have k0 := h0
  have lt0 : ∀ x ∈ p0, x.block < W.heap.size := by obtain ⟨m, hm⟩ := k0; exact DataW.trod_lt m _ _ _ hm
  obtain ⟨a0, rfl, w0⟩ := open_agg1 Try.underlying24 (by kernel_rfl) (by kernel_rfl) Try.underlying22 (hval 0 24 v0 rfl rfl) h0
  obtain ⟨a1, rfl, rfl, rfl, w1⟩ := open_int Try.underlying3 (hval 1 3 v1 rfl rfl) h1
  clear hA0 hval0
  refine (walk a0 a1 W w0 w1).mono fun e W' ⟨he, bel⟩ => ?_
  subst he
  exact ⟨_, rfl, _, _, _, [], _, [], hW', trodAll_mk1 (shut_bool Try.underlying4 _), (trodAll_cons_mk (Below.trod laidOut (by kernel_rfl) (of_decide_eq_true (by kernel_rfl)) k0 bel lt0) (trodAll_cons_mk (shut_int Try.underlying3 w1) trodAll_mk0)), rfl, bel.frame _, fun h => by cases h⟩

theorem over : Rows.diceShufflesRow.holds Try.pinned (OpenSpec.ofChange Rows.diceShufflesSpec) :=
  OpenClaim.holds_of_wide 4 Try.f4 rfl rfl rfl rfl rfl rfl rfl ⟨rfl, rfl, rfl, rfl, rfl⟩ rfl rfl rfl rfl rfl (by kernel_rfl) Try.func4 (by kernel_rfl)
    (of_decide_eq_true (by kernel_rfl)) (by unfold Func.isWrapper; first | (rw [if_pos (by decide +kernel)]; kernel_rfl) | (rw [if_neg (by decide +kernel)]; exact ⟨rfl, rfl⟩))
    (fun os started H enc _ => lifted os started H enc)

/-- ████ THE STATEMENT ████ -/
theorem proved : Rows.DiceShufflesSaid := over
#print axioms proved
end Go.Proofs.Ytdhapddconoegaa.diceShuffles
