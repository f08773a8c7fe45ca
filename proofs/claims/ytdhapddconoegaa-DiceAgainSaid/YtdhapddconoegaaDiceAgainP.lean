/- Proves 'DiceAgainSaid': for every input the Go function DiceAgain returns true, and each argument reads afterwards as it read before. Conditions: none beyond the row's own. -/
import Derived.Test.YtdhapddconoegaaRows
import Derived.WalkKit
import Derived.ProofKit
import Derived.OpenShut
import Derived.ShutString
import Derived.SliceStrings
import Derived.ChangeOld
import Derived.Below
import Derived.Test.YtdhapddconoegaaDicH
namespace Go.Proofs.Ytdhapddconoegaa.diceAgain
open Go.ChangeShapes Go.WideShapes Go.ChangeAt Go.RowKit
open Go.ChangeMaps (open_string shut_string)
set_option linter.unusedVariables false

theorem own : ownKnob Try.prog.godebug = none := by kernel_rfl
theorem laidOut : laidOutB Try.prog = true := by kernel_rfl

/-- WHAT THE WALK IS TOLD OF A SLICE OF INTEGERS THAT CAME IN: it is nil; or it leads to a row of 'cap' cells, the numbers 'zs' (the first 'len' are its elements, the rest its spare room), each fitting its kind. -/
def IsRow (k : IntKind) (w : World) (a : Option Addr) (len cap : Nat) (zs : List Int) : Prop :=
  (a = none ∧ len = 0 ∧ cap = 0 ∧ zs = []) ∨
  ∃ x, a = some x ∧ len ≤ cap ∧ cap ≤ maxLen ∧ zs.length = cap ∧ (∀ i, i < zs.length → w.cell? (x.add i) = some (.int k (zs.getD i 0))) ∧ ∀ n ∈ zs, (Lit.int k n).wf = true

/-! ### STEP 1: THE WALK: the Go text returns true, AND WRITES NOTHING THAT WAS THERE: 'Below w.heap.size w w'' (Derived/Below.lean: '.refl', '.alloc', '.drew', '.setCell' at a new block, '.trans'). Open each 'IsRow' by 'rcases' AHEAD of 'go_enter'; part every test ahead of the walk. -/
set_option maxRecDepth 20000 in
set_option maxHeartbeats 4000000 in
theorem walk (a0 : Int) (a1 : Int) (w : World) (w0 : (Lit.int .u64 a0).wf = true) (w1 : (Lit.int .u8 a1).wf = true) :
    Calls Try.prog 7 #[.int .u64 a0, .int .u8 a1] w fun e w' => e = .returned (.bool true) ∧ Below w.heap.size w w' := by
  obtain ⟨u1, u2⟩ := bounds_u64 w0
  obtain ⟨s, rfl⟩ := Int.eq_ofNat_of_zero_le u1
  obtain ⟨f1, f2⟩ := bounds_u8 w1
  obtain ⟨few, rfl⟩ := Int.eq_ofNat_of_zero_le f1
  have hsM : s < Sum.M := by unfold Sum.M; omega
  have HN := hid (fun w => p_New s w)
  clear w0 w1 u1
  go_enter Try.func7, Try.ntmps7
  go_wp2_with fail
  refine (HN.out _).mono ?_
  rintro e w1 ⟨rfl, b1⟩
  go_wp2_with fail
  refine (HN.out _).mono ?_
  rintro e w2 ⟨rfl, b2⟩
  have B2 := b1.trans (b2.mono b1.size)
  obtain ⟨W, hW, x1, x2, hb, hs⟩ := two_d w2 (s : Int) (s : Int)
  obtain ⟨kd, hkd⟩ : ∃ kd, w2.heap.size = kd := ⟨_, rfl⟩
  have hck := B2.size
  have HB := hid (B2.trans (hb.mono B2.size))
  rw [hkd] at x1 x2 hs hck
  clear b1 b2 B2 hb
  go_wp2_with fail
  have HX := hid (fun st w => p_Next st w)
  have X1 := hid x1
  have X2 := hid x2
  have hsz : kd + 1 < W.heap.size := by omega
  rw [← Dic.skn_zero s hsM] at X1 X2
  clear x1 x2 hs
  go_loopw [7] (fun iv wr => ∃ k : Nat, iv = .int .i64 k ∧ k ≤ few ∧ Hid (Bx wr kd (Dic.skn s k)) ∧ Hid (Bx wr (kd + 1) (Dic.skn s k)) ∧ Hid (Below w.heap.size w wr)) (fun iv _ => few - (intOf iv).toNat)
  case atStart => exact ⟨0, rfl, Nat.zero_le _, X1, X2, HB⟩
  case round =>
    clear X1 X2 HB hsz
    obtain ⟨k, rfl, hk, X1, X2, HB⟩ := hrel
    by_cases hlt : k < few
    · have hne := hid (Dic.skn_ne s (k + 1) (by omega) (by omega))
      have Hn := hid (fun w => p_Next (Dic.skn s k) w)
      rw [Dic.nx_skn] at Hn
      have Hk1 : ∃ q, Dic.skn s (k + 1) = q := ⟨_, rfl⟩
      obtain ⟨s', hs'⟩ := Hk1
      have Hs' := hid hs'
      rw [hs'] at hne Hn
      clear hs'
      generalize Dic.skn s k = s0 at *
      generalize Dic.num s0 = v at *
      have c1 := X1.out.cell
      clear HX
      go_wp2_with fail
      refine (Hn.out _).mono ?_
      rintro e w3 ⟨rfl, b3⟩
      have hsz3 := b3.size
      have Y1 := X1.out.below b3 X1.out.lt
      have Y2 := X2.out.below b3 X2.out.lt
      have B3 := hid (HB.out.trans (b3.mono HB.out.size))
      obtain ⟨kp, W3, hkp, hW3, P3, B4, bb, hzp, hcp⟩ := one_d B3.out B3.out.size (s' : Int)
      have Z1 := Y1.below bb (by have := Y1.lt; omega)
      have Z2 := Y2.below bb (by have := Y2.lt; omega)
      have hkl := Y2.lt
      clear X1 X2 Y1 Y2 B3 HB c1 bb b3
      have c2 := Z2.cell
      go_wp2_with fail
      refine (Hn.out _).mono ?_
      rintro e w4 ⟨rfl, b4⟩
      have hsz4 := b4.size
      have Y1 := Z1.below b4 Z1.lt
      have Y2 := Z2.below b4 Z2.lt
      have P4 := P3.below b4 P3.lt
      have B5 := hid (B4.trans (b4.mono B4.size))
      obtain ⟨kq, W4, hkq, hW4, Q5, B6, bb, hzq, hcq⟩ := one_d B5.out B5.out.size (s' : Int)
      have Z1 := hid (Y1.below bb (by have := Y1.lt; omega))
      have Z2 := hid (Y2.below bb (by have := Y2.lt; omega))
      have P5 := P4.below bb (by have := P4.lt; omega)
      clear Y1 Y2 P3 P4 B4 B5 c2 bb b4
      have c3 := P5.cell
      have c4 := Q5.cell
      have hne' : ¬ ((s' : Int) = (s : Int)) := by have := hne.out; omega
      have hS2 := And.intro c3 c4
      have HN4 := hid (HN.out W4.drew)
      go_wp2_with fail
      go_region_held3 (fun X => X.cell? ⟨kp, 0, none⟩ = some (.int .u64 s') ∧ X.cell? ⟨kq, 0, none⟩ = some (.int .u64 s')) (exact hS2) (first | (go_at_call 15; refine (HN4.out).mono ?_; rintro e w5 ⟨rfl, b5⟩; have hS2 := And.intro ((show Bx W4.drew kp s' from P5).below b5 P5.lt).cell ((show Bx W4.drew kq s' from Q5).below b5 Q5.lt).cell))
      have A1 := (show Bx W4.drew kd s0 from Z1.out).below b5 Z1.out.lt
      have A2 := (show Bx W4.drew (kd + 1) s0 from Z2.out).below b5 Z2.out.lt
      have A3 := (show Bx W4.drew kp s' from P5).below b5 P5.lt
      have A4 := (show Bx W4.drew kq s' from Q5).below b5 Q5.lt
      have B7 := B6.trans (((Below.refl W4.heap.size W4).drew.trans b5).mono B6.size)
      have D1 := A1.set (s' : Int)
      have D2 := A2.ahead (p := ⟨kd, 0, none⟩) (by show kd ≠ kd + 1; omega) (.int .u64 (s' : Int))
      have D4 := A4.ahead (p := ⟨kd, 0, none⟩) (by show kd ≠ kq; omega) (.int .u64 (s' : Int))
      have E1 := hid (D1.ahead (p := ⟨kd + 1, 0, none⟩) (by show kd + 1 ≠ kd; omega) (.int .u64 (s' : Int)))
      have E2 := hid (D2.set (s' : Int))
      have B8 := hid ((B7.setCell (p := ⟨kd, 0, none⟩) (by show w.heap.size ≤ kd; omega) (.int .u64 (s' : Int))).setCell (p := ⟨kd + 1, 0, none⟩) (by show w.heap.size ≤ kd + 1; omega) (.int .u64 (s' : Int))).drew
      have g1 := A1.cell
      have g2 := A1.free
      have g3 := A2.cell
      have g4 := A2.free
      have g5 := D2.cell
      have g6 := D2.free
      have g7 := D4.cell
      clear D1 D2 D4 A1 A2 A3 A4 B7 B6 Z1 Z2 P5 Q5 HN4 Hn c3 c4 b5
      go_wp2_with fail
      go_region
      go_wp2_with fail
      exact ⟨⟨k + 1, by go_num, by omega, by rw [Hs'.out]; exact E1, by rw [Hs'.out]; exact E2, B8⟩, by simp [intOf]; omega⟩
    · obtain rfl : k = few := by omega
      go_wp2_with fail
      refine (heads _).mono ?_
      rintro e w3 ⟨rfl, b3⟩
      go_wp2_with fail
      go_ret
      exact ⟨rfl, HB.out.trans (b3.mono HB.out.size)⟩

/-! ### THE ROW's STEP: WRITTEN OUT: LEAVE IT -/
set_option maxRecDepth 100000 in
theorem lifted (os : Os) (started : os.Started) (H : Type) (enc : TypeId × Value → H) :
    ReturnsInHanded {} Try.checked os 7 .any (Rows.diceAgainSpec.pre6 enc Try.prog Try.f7 Rows.diceAgainRow.domain false) (Rows.diceAgainSpec.post enc Try.prog Try.f7 false true false false) := by
  refine returnsInHanded_of_change (C := Try.checked) own started (by kernel_rfl) Try.func7
    (ChangeSpec.witness6 (enc := enc) (C := Try.checked) false ⟨#[], #[.int .u64 0, .int .u8 0], []⟩ 8 (by kernel_rfl) (by kernel_rfl) (by kernel_rfl) (by kernel_rfl)) ?_
  intro W base args ds gs before hval0 hW hcnd _
  have hval : ∀ (j : Nat) t v, Try.f7.params[j]? = some t → args[j]? = some v → Value.okWide Try.prog W .any base t v := hval0
  have hW' := hW
  obtain ⟨p, q, hA0, hV, rfl, hfz, hnd⟩ := hW
  have hA : DataW.TrodAll enc Try.prog W 0 (fun _ => true) true Try.f7.params.toList args.toList ds p := hA0
  rw [Try.params7] at hA hval
  obtain ⟨v0, vs0, d0, ds0, p0, q0, hargs, rfl, rfl, h0, r0⟩ := trodAll_cons hA
  obtain ⟨v1, vs1, d1, ds1, p1, q1, rfl, rfl, rfl, h1, r1⟩ := trodAll_cons r0
  obtain ⟨rfl, rfl, rfl⟩ := trodAll_nil r1
  obtain rfl : args = #[v0, v1] := by cases args; simp_all
  obtain ⟨rfl, rfl⟩ := trodVars_none hV
  obtain ⟨a0, rfl, rfl, rfl, w0⟩ := open_int Try.underlying22 (hval 0 22 v0 rfl rfl) h0
  obtain ⟨a1, rfl, rfl, rfl, w1⟩ := open_int Try.underlying5 (hval 1 5 v1 rfl rfl) h1
  clear hA0 hval0
  refine (walk a0 a1 W w0 w1).mono fun e W' ⟨he, bel⟩ => ?_
  subst he
  exact ⟨_, rfl, _, _, _, [], _, [], hW', trodAll_mk1 (shut_bool Try.underlying4 _), (trodAll_cons_mk (shut_int Try.underlying22 w0) (trodAll_cons_mk (shut_int Try.underlying5 w1) trodAll_mk0)), rfl, bel.frame _, fun h => by cases h⟩

theorem over : Rows.diceAgainRow.holds Try.pinned (OpenSpec.ofChange Rows.diceAgainSpec) :=
  OpenClaim.holds_of_wide 7 Try.f7 rfl rfl rfl rfl rfl rfl rfl ⟨rfl, rfl, rfl, rfl, rfl⟩ rfl rfl rfl rfl rfl (by kernel_rfl) Try.func7 (by kernel_rfl)
    (of_decide_eq_true (by kernel_rfl)) (by unfold Func.isWrapper; first | (rw [if_pos (by decide +kernel)]; kernel_rfl) | (rw [if_neg (by decide +kernel)]; exact ⟨rfl, rfl⟩))
    (fun os started H enc _ => lifted os started H enc)

/-- ████ THE STATEMENT ████ -/
theorem proved : Rows.DiceAgainSaid := over
#print axioms proved
end Go.Proofs.Ytdhapddconoegaa.diceAgain
