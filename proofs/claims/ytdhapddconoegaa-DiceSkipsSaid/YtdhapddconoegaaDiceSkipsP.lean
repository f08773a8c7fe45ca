/- Proves 'DiceSkipsSaid': for every input the Go function DiceSkips returns true, and each argument reads afterwards as it read before. Conditions: none beyond the row's own. -/
import Derived.Test.YtdhapddconoegaaRows
import Derived.WalkKit
import Derived.ProofKit
import Derived.OpenShut
import Derived.ShutString
import Derived.SliceStrings
import Derived.ChangeOld
import Derived.Below
import Derived.Test.YtdhapddconoegaaDicH
namespace Go.Proofs.Ytdhapddconoegaa.diceSkips
open Go.ChangeShapes Go.WideShapes Go.ChangeAt Go.RowKit
open Go.ChangeMaps (open_string shut_string)
set_option linter.unusedVariables false

theorem own : ownKnob Try.prog.godebug = none := by kernel_rfl
theorem laidOut : laidOutB Try.prog = true := by kernel_rfl

/-- WHAT THE WALK IS TOLD OF A SLICE OF INTEGERS THAT CAME IN: it is nil; or it leads to a row of 'cap' cells, the numbers 'zs' (the first 'len' are its elements, the rest its spare room), each fitting its kind. -/
def IsRow (k : IntKind) (w : World) (a : Option Addr) (len cap : Nat) (zs : List Int) : Prop :=
  (a = none ∧ len = 0 ∧ cap = 0 ∧ zs = []) ∨
  ∃ x, a = some x ∧ len ≤ cap ∧ cap ≤ maxLen ∧ zs.length = cap ∧ (∀ i, i < zs.length → w.cell? (x.add i) = some (.int k (zs.getD i 0))) ∧ ∀ n ∈ zs, (Lit.int k n).wf = true

/-! ### STEP 1: THE WALK: the Go text returns true, AND WRITES NOTHING THAT WAS THERE: 'Below w.heap.size w w'' (Derived/Below.lean: '.refl', '.alloc', '.drew', '.setCell' at a new block, '.trans'). Open each 'IsRow' by 'rcases' AHEAD of 'go_enter'; part every test ahead of the walk. -/
set_option maxRecDepth 20000 in
set_option maxHeartbeats 4000000 in
theorem walk (a0 : Int) (a1 : Int) (a2 : Int) (w : World) (w0 : (Lit.int .u64 a0).wf = true) (w1 : (Lit.int .i64 a1).wf = true) (w2 : (Lit.int .u8 a2).wf = true) :
    Calls Try.prog 5 #[.agg #[.int .u64 a0], .int .i64 a1, .int .u8 a2] w fun e w' => e = .returned (.bool true) ∧ Below w.heap.size w w' := by
  obtain ⟨u1, u2⟩ := bounds_u64 w0
  obtain ⟨s, rfl⟩ := Int.eq_ofNat_of_zero_le u1
  obtain ⟨n1, n2⟩ := bounds_i64 w1
  obtain ⟨f1, f2⟩ := bounds_u8 w2
  obtain ⟨few, rfl⟩ := Int.eq_ofNat_of_zero_le f1
  have hsM : s < Sum.M := by unfold Sum.M; omega
  have HP := hid (fun (n : Int) (hn : I64 n) w => p_Skip s n hn w)
  have HR := hid (fun w => r_Skip s a1 (by unfold I64; omega) w)
  have HF := hid (show Dic.skn s few = Dic.skip s (few : Int) by unfold Dic.skip; rw [if_neg (by omega)]; rfl)
  clear w0 w1 w2 u1
  by_cases hbig : (1048576 : Int) < a1
  · go_enter Try.func5, Try.ntmps5
    go_wp2_with fail
    refine (heads _).mono ?_
    rintro e w3 ⟨rfl, b3⟩
    go_wp2_with fail
    go_ret
    exact ⟨rfl, (below_alloc w _).trans (b3.mono (below_alloc w _).size)⟩
  obtain ⟨W, hW, x1, x2, hb, hs⟩ := two_d w (s : Int) (s : Int)
  have X1 := hid x1
  have X2 := hid x2
  have HB := hid hb
  rw [← Dic.skn_zero s hsM] at X2
  have c1 := x1.cell
  clear x1 x2 hb
  have hbig' : a1 ≤ 1048576 := by omega
  go_enter Try.func5, Try.ntmps5
  go_wp2_with fail
  go_loopw [8] (fun iv wr => ∃ k : Nat, iv = .int .i64 k ∧ k ≤ few ∧ Hid (Bx wr w.heap.size s) ∧ Hid (Bx wr (w.heap.size + 1) (Dic.skn s k)) ∧ Hid (Below w.heap.size w wr)) (fun iv _ => few - (intOf iv).toNat)
  case atStart => exact ⟨0, rfl, Nat.zero_le _, X1, X2, HB⟩
  case round =>
    clear X1 X2 HB hs hW c1
    obtain ⟨k, rfl, hk, X1, X2, HB⟩ := hrel
    by_cases hlt : k < few
    · have Hn := hid (fun w => p_Next (Dic.skn s k) w)
      rw [Dic.nx_skn] at Hn
      obtain ⟨s', hs'⟩ : ∃ q, Dic.skn s (k + 1) = q := ⟨_, rfl⟩
      have Hs' := hid hs'
      rw [hs'] at Hn
      clear hs' HP HR HF
      generalize Dic.skn s k = s0 at *
      generalize Dic.num s0 = v at *
      have c1 := X2.out.cell
      go_wp2_with fail
      refine (Hn.out _).mono ?_
      rintro e w3 ⟨rfl, b3⟩
      have Y1 := X1.out.below b3 X1.out.lt
      have Y2 := X2.out.below b3 X2.out.lt
      have B3 := HB.out.trans (b3.mono HB.out.size)
      have E1 := hid (Y1.ahead (p := ⟨w.heap.size + 1, 0, none⟩) (by show w.heap.size + 1 ≠ w.heap.size; omega) (.int .u64 (s' : Int)))
      have E2 := hid (Y2.set (s' : Int))
      have E3 := hid (B3.setCell (p := ⟨w.heap.size + 1, 0, none⟩) (by show w.heap.size ≤ w.heap.size + 1; omega) (.int .u64 (s' : Int)))
      have c2 := Y2.cell
      have f2 := Y2.free
      clear X1 X2 HB c1 b3 Y1 Y2 B3
      go_wp2_with fail
      exact ⟨⟨k + 1, by go_num, by omega, E1, by rw [Hs'.out]; exact E2, E3⟩, by simp [intOf]; omega⟩
    · obtain rfl : k = few := by omega
      rw [HF.out] at X2
      have hK : Hid (Held w wr.drew w.heap.size (w.heap.size + 1) (.int .u64 s) (.int .u64 (Dic.skip s k : Nat))) := hid ⟨⟨X1.out.cell, X2.out.cell⟩, X1.out.lt, X2.out.lt, HB.out.drew⟩
      have hS2 := hK.out.1
      have hkI : I64 (k : Int) := by unfold I64; omega
      have hkw : IntKind.i64.wrap (k : Int) = (k : Int) := by rw [IntKind.wrap_i64]; omega
      have haI : I64 a1 := by unfold I64; omega
      clear X1 X2 HB
      go_wp2_with fail
      go_region_held3 (fun X => X.cell? ⟨w.heap.size, 0, none⟩ = some (.int .u64 s) ∧ X.cell? ⟨w.heap.size + 1, 0, none⟩ = some (.int .u64 (Dic.skip s k : Nat))) (exact hS2) (first
        | (go_at_call 19; refine (HP.out _ ?hI _).mono ?_; (case hI => first | exact haI | exact hkI); rintro e w5 ⟨rfl, b5⟩; have hK := hid (hK.out.next b5); have hS2 := hK.out.1)
        | (go_at_call 20; refine (HR.out _).mono ?_; rintro e w5 ⟨rfl, b5⟩; have hK := hid (hK.out.next b5); have hS2 := hK.out.1)
        | (go_at_call 8; refine (heads _).mono ?_; rintro e w5 ⟨rfl, b5⟩; have hK := hid (hK.out.next b5); have hS2 := hK.out.1))
      go_wp2_with fail
      go_ret
      exact ⟨rfl, hK.out.2.2.2⟩

/-! ### THE ROW's STEP: WRITTEN OUT: LEAVE IT -/
set_option maxRecDepth 100000 in
theorem lifted (os : Os) (started : os.Started) (H : Type) (enc : TypeId × Value → H) :
    ReturnsInHanded {} Try.checked os 5 .any (Rows.diceSkipsSpec.pre6 enc Try.prog Try.f5 Rows.diceSkipsRow.domain false) (Rows.diceSkipsSpec.post enc Try.prog Try.f5 false true false false) := by
  refine returnsInHanded_of_change (C := Try.checked) own started (by kernel_rfl) Try.func5
    (ChangeSpec.witness6 (enc := enc) (C := Try.checked) false ⟨#[], #[.agg #[.int .u64 0], .int .i64 0, .int .u8 0], []⟩ 8 (by kernel_rfl) (by kernel_rfl) (by kernel_rfl) (by kernel_rfl)) ?_
  intro W base args ds gs before hval0 hW hcnd _
  have hval : ∀ (j : Nat) t v, Try.f5.params[j]? = some t → args[j]? = some v → Value.okWide Try.prog W .any base t v := hval0
  have hW' := hW
  obtain ⟨p, q, hA0, hV, rfl, hfz, hnd⟩ := hW
  have hA : DataW.TrodAll enc Try.prog W 0 (fun _ => true) true Try.f5.params.toList args.toList ds p := hA0
  rw [Try.params5] at hA hval
  obtain ⟨v0, vs0, d0, ds0, p0, q0, hargs, rfl, rfl, h0, r0⟩ := trodAll_cons hA
  obtain ⟨v1, vs1, d1, ds1, p1, q1, rfl, rfl, rfl, h1, r1⟩ := trodAll_cons r0
  obtain ⟨v2, vs2, d2, ds2, p2, q2, rfl, rfl, rfl, h2, r2⟩ := trodAll_cons r1
  obtain ⟨rfl, rfl, rfl⟩ := trodAll_nil r2
  obtain rfl : args = #[v0, v1, v2] := by cases args; simp_all
  obtain ⟨rfl, rfl⟩ := trodVars_none hV
  have k0 := h0
  have lt0 : ∀ x ∈ p0, x.block < W.heap.size := by obtain ⟨m, hm⟩ := k0; exact DataW.trod_lt m _ _ _ hm
  obtain ⟨a0, rfl, w0⟩ := open_agg1 Try.underlying24 (by kernel_rfl) (by kernel_rfl) Try.underlying22 (hval 0 24 v0 rfl rfl) h0
  obtain ⟨a1, rfl, rfl, rfl, w1⟩ := open_int Try.underlying3 (hval 1 3 v1 rfl rfl) h1
  obtain ⟨a2, rfl, rfl, rfl, w2⟩ := open_int Try.underlying5 (hval 2 5 v2 rfl rfl) h2
  clear hA0 hval0
  refine (walk a0 a1 a2 W w0 w1 w2).mono fun e W' ⟨he, bel⟩ => ?_
  subst he
  exact ⟨_, rfl, _, _, _, [], _, [], hW', trodAll_mk1 (shut_bool Try.underlying4 _), (trodAll_cons_mk (Below.trod laidOut (by kernel_rfl) (of_decide_eq_true (by kernel_rfl)) k0 bel lt0) (trodAll_cons_mk (shut_int Try.underlying3 w1) (trodAll_cons_mk (shut_int Try.underlying5 w2) trodAll_mk0))), rfl, bel.frame _, fun h => by cases h⟩

theorem over : Rows.diceSkipsRow.holds Try.pinned (OpenSpec.ofChange Rows.diceSkipsSpec) :=
  OpenClaim.holds_of_wide 5 Try.f5 rfl rfl rfl rfl rfl rfl rfl ⟨rfl, rfl, rfl, rfl, rfl⟩ rfl rfl rfl rfl rfl (by kernel_rfl) Try.func5 (by kernel_rfl)
    (of_decide_eq_true (by kernel_rfl)) (by unfold Func.isWrapper; first | (rw [if_pos (by decide +kernel)]; kernel_rfl) | (rw [if_neg (by decide +kernel)]; exact ⟨rfl, rfl⟩))
    (fun os started H enc _ => lifted os started H enc)

/-- ████ THE STATEMENT ████ -/
theorem proved : Rows.DiceSkipsSaid := over
#print axioms proved
end Go.Proofs.Ytdhapddconoegaa.diceSkips
