/- Proves 'TableLivesSaid': for every input the Go function TableLives returns true, and each argument reads afterwards as it read before. Conditions: none beyond the row's own. -/
import Derived.Test.YtbkabjnklipmjaaRows
import Derived.WalkKit
import Derived.ProofKit
import Derived.OpenShut
import Derived.ShutString
import Derived.SliceStrings
import Derived.ChangeOld
import Derived.Below
import Derived.Test.YtbkabjnklipmjaaTabX
namespace Go.Proofs.Ytbkabjnklipmjaa.tableLives
open Go.ChangeShapes Go.WideShapes Go.ChangeAt Go.RowKit
open Go.ChangeMaps (open_string shut_string)
set_option linter.unusedVariables false

theorem own : ownKnob Try.prog.godebug = none := by kernel_rfl
theorem laidOut : laidOutB Try.prog = true := by kernel_rfl

/-- WHAT THE WALK IS TOLD OF A SLICE OF INTEGERS THAT CAME IN: it is nil; or it leads to a row of 'cap' cells, the numbers 'zs' (the first 'len' are its elements, the rest its spare room), each fitting its kind. -/
def IsRow (k : IntKind) (w : World) (a : Option Addr) (len cap : Nat) (zs : List Int) : Prop :=
  (a = none ∧ len = 0 ∧ cap = 0 ∧ zs = []) ∨
  ∃ x, a = some x ∧ len ≤ cap ∧ cap ≤ maxLen ∧ zs.length = cap ∧ (∀ i, i < zs.length → w.cell? (x.add i) = some (.int k (zs.getD i 0))) ∧ ∀ n ∈ zs, (Lit.int k n).wf = true

/-! ### STEP 1: THE WALK: the Go text returns true, AND WRITES NOTHING THAT WAS THERE: 'Below w.heap.size w w'' (Derived/Below.lean: '.refl', '.alloc', '.drew', '.setCell' at a new block, '.trans'). Open each 'IsRow' by 'rcases' AHEAD of 'go_enter'; part every test ahead of the walk. -/
set_option maxRecDepth 20000 in
set_option maxHeartbeats 16000000 in
theorem walk (a0 : Option Addr) (len0 cap0 : Nat) (z0 : List Opv) (w : World) (w0 : IsRowO w a0 len0 cap0 z0) :
    Calls Try.prog 3 #[.slice a0 len0 cap0] w fun e w' => e = .returned (.bool true) ∧ Below w.heap.size w w' := by
  obtain ⟨hl, hlc, hcm, hops, _⟩ := w0
  by_cases hbig : (120 : Int) < len0
  · clear hops
    go_enter Try.func3, Try.ntmps3
    go_wp2_with fail
    refine (heads _).mono ?_
    rintro e w' ⟨rfl, b⟩
    go_wp2_with fail
    go_ret
    exact ⟨rfl, b⟩
  have hbig' : (len0 : Int) ≤ 120 := by omega
  have H := hid hops
  clear hops hbig
  go_enter Try.func3, Try.ntmps3
  go_wp2_with fail
  refine (o_New w).mono ?_
  rintro e w1 ⟨p, rfl, t1, b1⟩
  have X1 := hid (Apt.mk t1 b1.size (o_zero w1).2 (o_zero w1).1)
  have b11 := below2 b1 (o_zero w1).2
  clear t1
  go_wp2_with fail
  go_loopw [5, 6] (fun sv iv wr => ∃ (k : Nat) (m : List Tbm.Kv) (A1 : Option Addr) (c1 : Nat), iv = .int .i64 k ∧ k ≤ z0.length ∧ m.length ≤ k ∧ sv = .slice A1 m.length c1 ∧ m.length ≤ c1 ∧ Hid (Apt w.heap.size wr p w1.heap.size m m A1 none m []) ∧ Below w.heap.size w wr) (fun _ iv _ => z0.length - (intOf iv).toNat)
  case atStart => exact ⟨0, [], none, 0, rfl, Nat.zero_le _, Nat.le_refl _, rfl, Nat.le_refl _, X1, b11⟩
  case round =>
    clear X1 b11
    obtain ⟨k, m, A1, c1, rfl, hk, hml, rfl, hmc, X, hb⟩ := hrel
    generalize w1.heap.size = q at *
    by_cases hlt : k < z0.length
    · obtain ⟨b0, o0, kd, key, vl, rfl, hbB, Hx, hc0, hc1, hc2⟩ := Ops.get (H.out.below hb (Nat.le_refl _)) hlt
      have i1 : (0 : Int) ≤ (k : Int) := by omega
      have i2 : (k : Int) < (z0.length : Int) := by omega
      have hbs := hb.size
      have G1 := hid (o_Get X.out.p (by omega) key)
      unfold GotRet at G1
      go_wp2_with fail
      refine (G1.out).mono ?_
      rintro e w2 ⟨rfl, b2⟩
      have X2 := hid (X.out.below b2)
      have b02 := below2 hb b2
      have G2 := hid (r_Get A1 m.length c1 m rfl (by omega) key _ w2 X2.out.row.1)
      unfold GetRet at G2
      have he1 := (b2.cell (p := ⟨b0, o0 + k * 3 + 1, none⟩) (show b0 < wr.heap.size by omega)).trans hc1
      have he0 := (b2.cell (p := ⟨b0, o0 + k * 3, none⟩) (show b0 < wr.heap.size by omega)).trans hc0
      have he2 := (b2.cell (p := ⟨b0, o0 + k * 3 + 2, none⟩) (show b0 < wr.heap.size by omega)).trans hc2
      go_wp2_with fail
      refine (G2.out).mono ?_
      rintro e w3 ⟨rfl, rfl⟩
      clear G1 G2 X b2 hc0 hc1 hc2
      generalize hgv : (Tbm.get m key).getD [] = gv
      generalize hgb : (Tbm.get m key).isSome = gb
      have hbb : (gb == gb) = true := by simp
      by_cases h1 : kd = 1
      · subst h1
        have hs := X2.out.p.srt
        have hlp := Tbm.len_put hs key vl
        have hnl : (Tbm.put m key vl).length ≤ k + 1 := by rw [hlp]; split <;> omega
        clear hlp hs
        obtain ⟨m', Hm⟩ : ∃ m', Hid (Tbm.put m key vl = m') := ⟨_, hid rfl⟩
        rw [Hm.out] at hnl
        have C1 := hid (apt_put (X2.out.below (Below.refl w2.heap.size w2).drew) b02.size (by omega) key vl)
        rw [Hm.out] at C1
        have f1 : w2.drew.cell? ⟨b0, o0 + k * 3 + 1, none⟩ = some (txt key) := he1
        have f2 : w2.drew.cell? ⟨b0, o0 + k * 3 + 2, none⟩ = some (txt vl) := he2
        have hbw : b0 < w.heap.size := by omega
        clear X2 he1 he2
        go_wp2_with fail
        go_region_held3 (fun X => X.cell? ⟨b0, o0 + k * 3 + 1, none⟩ = some (txt key) ∧ X.cell? ⟨b0, o0 + k * 3 + 2, none⟩ = some (txt vl)) (first | exact ⟨f1, f2⟩ | exact hS2) (first | (go_at_call 13; refine (C1.out).mono ?_; rintro e w4 ⟨rfl, X4, b4⟩; have hS2 := And.intro ((b4.cell (p := ⟨b0, o0 + k * 3 + 1, none⟩) hbw).trans f1) ((b4.cell (p := ⟨b0, o0 + k * 3 + 2, none⟩) hbw).trans f2)))
        have b24 : Below w.heap.size w2 w4 := (Below.refl _ w2).drew.trans b4
        have b04 := b02.trans b24
        have g1 : w4.drew.cell? ⟨b0, o0 + k * 3 + 1, none⟩ = some (txt key) := hS2.1
        have g2 : w4.drew.cell? ⟨b0, o0 + k * 3 + 2, none⟩ = some (txt vl) := hS2.2
        have C2 := hid (apt_put (X4.swap.below (Below.refl w4.heap.size w4).drew) b04.size (by omega) key vl)
        rw [Hm.out] at C2
        clear X4 hS2 f1 f2 C1 he0
        go_wp2_with fail
        go_region_held3 (fun X => X.cell? ⟨b0, o0 + k * 3 + 1, none⟩ = some (txt key) ∧ X.cell? ⟨b0, o0 + k * 3 + 2, none⟩ = some (txt vl)) (first | exact ⟨g1, g2⟩ | exact hS3) (first | (go_at_call 13; refine (C2.out).mono ?_; rintro e w5 ⟨rfl, X5, b5⟩; have hS3 := And.intro ((b5.cell (p := ⟨b0, o0 + k * 3 + 1, none⟩) hbw).trans g1) ((b5.cell (p := ⟨b0, o0 + k * 3 + 2, none⟩) hbw).trans g2)))
        have b45 : Below w.heap.size w4 w5 := (Below.refl _ w4).drew.trans b5
        have b05 := b04.trans b45
        have f1 : w5.drew.cell? ⟨b0, o0 + k * 3 + 1, none⟩ = some (txt key) := hS3.1
        have f2 : w5.drew.cell? ⟨b0, o0 + k * 3 + 2, none⟩ = some (txt vl) := hS3.2
        have X5' := hid (X5.swap.below (Below.refl w5.heap.size w5).drew)
        have C3 := hid (r_Put A1 m.length c1 m rfl hmc (by omega) key vl _ w5.drew (Nat.le_refl _) X5'.out.row.1)
        unfold PrRet at C3
        rw [Hm.out] at C3
        have hbw5 : b0 < w5.drew.heap.size := Nat.lt_of_lt_of_le hbw b05.size
        clear X5 hS3 g1 g2 C2 hbw
        have hbw := hbw5
        go_wp2_with fail
        go_region_held3 (fun X => X.cell? ⟨b0, o0 + k * 3 + 1, none⟩ = some (txt key) ∧ X.cell? ⟨b0, o0 + k * 3 + 2, none⟩ = some (txt vl)) (first | exact ⟨f1, f2⟩ | exact hS4) (first | (go_at_call 14; refine (C3.out).mono ?_; rintro e w6 ⟨A6, c6, rfl, r6, hc6, ha6, b6⟩; have hS4 := And.intro ((b6.cell (p := ⟨b0, o0 + k * 3 + 1, none⟩) hbw).trans f1) ((b6.cell (p := ⟨b0, o0 + k * 3 + 2, none⟩) hbw).trans f2)))
        have X6 := hid (X5'.out.row1 b6 r6 ha6)
        have b06 := b05.trans (((Below.refl _ w5).drew).trans (b6.mono b05.size))
        clear X5' r6 ha6 hS4 f1 f2 C3
        have L1 := hid (o_Len (X6.out).p (by omega))
        unfold LenRet at L1
        go_wp2_with fail
        refine (L1.out).mono ?_
        rintro e w8 ⟨rfl, b8⟩
        have X8 := hid ((X6.out).below b8)
        have b08 := below2 b06 b8
        have L2 := hid (o_Len X8.out.q (by omega))
        unfold LenRet at L2
        go_wp2_with fail
        refine (L2.out).mono ?_
        rintro e w9 ⟨rfl, b9⟩
        have X9 := hid (X8.out.below b9)
        have b09 := below2 b08 b9
        go_wp2_with fail
        exact ⟨⟨k + 1, _, _, _, by go_num, by omega, by omega, rfl, by omega, hid X9.out, b09⟩, by simp [intOf]; omega⟩
      · have hk1 : (kd == 1) = false := by rw [beq_eq_false_iff_ne]; exact h1
        by_cases h2 : kd = 2
        · subst h2
          clear h1 hk1
          have hnl : (Tbm.del m key).length ≤ k + 1 := Nat.le_trans (List.length_filter_le _ _) (by omega)
          obtain ⟨m', Hm⟩ : ∃ m', Hid (Tbm.del m key = m') := ⟨_, hid rfl⟩
          rw [Hm.out] at hnl
          have C1 := hid (apt_del X2.out b02.size (by omega) key)
          rw [Hm.out, hgb] at C1
          have hbw : b0 < w.heap.size := by omega
          clear X2 he2
          go_wp2_with fail
          refine (C1.out).mono ?_
          rintro e w4 ⟨rfl, X4, b4⟩
          have b04 := b02.trans b4
          have C2 := hid (apt_del X4.swap b04.size (by omega) key)
          rw [Hm.out, hgb] at C2
          have f1 := (b4.cell (p := ⟨b0, o0 + k * 3 + 1, none⟩) hbw).trans he1
          clear X4 C1 he0 he1
          go_wp2_with fail
          refine (C2.out).mono ?_
          rintro e w5 ⟨rfl, X5, b5⟩
          have b05 := b04.trans b5
          have X5' := hid X5.swap
          have C3 := hid (r_Delete A1 m.length c1 m rfl (by omega) key _ w5 (Nat.le_refl _) X5'.out.row.1)
          unfold PrRet at C3
          rw [Hm.out] at C3
          have g1 := (b5.cell (p := ⟨b0, o0 + k * 3 + 1, none⟩) hbw).trans f1
          clear X5 C2 f1
          go_wp2_with fail
          refine (C3.out).mono ?_
          rintro e w6 ⟨A6, c6, rfl, r6, hc6, ha6, b6⟩
          have X6 := hid (X5'.out.row1 b6 r6 ha6)
          have b06 := below2 b05 b6
          clear X5' r6 ha6 g1 C3
          have L1 := hid (o_Len (X6.out).p (by omega))
          unfold LenRet at L1
          go_wp2_with fail
          refine (L1.out).mono ?_
          rintro e w8 ⟨rfl, b8⟩
          have X8 := hid ((X6.out).below b8)
          have b08 := below2 b06 b8
          have L2 := hid (o_Len X8.out.q (by omega))
          unfold LenRet at L2
          go_wp2_with fail
          refine (L2.out).mono ?_
          rintro e w9 ⟨rfl, b9⟩
          have X9 := hid (X8.out.below b9)
          have b09 := below2 b08 b9
          go_wp2_with fail
          exact ⟨⟨k + 1, _, _, _, by go_num, by omega, by omega, rfl, by omega, hid X9.out, b09⟩, by simp [intOf]; omega⟩
        · have hk2 : (kd == 2) = false := by rw [beq_eq_false_iff_ne]; exact h2
          clear h1 h2
          have L1 := hid (o_Len (X2.out).p (by omega))
          unfold LenRet at L1
          go_wp2_with fail
          refine (L1.out).mono ?_
          rintro e w8 ⟨rfl, b8⟩
          have X8 := hid ((X2.out).below b8)
          have b08 := below2 b02 b8
          have L2 := hid (o_Len X8.out.q (by omega))
          unfold LenRet at L2
          go_wp2_with fail
          refine (L2.out).mono ?_
          rintro e w9 ⟨rfl, b9⟩
          have X9 := hid (X8.out.below b9)
          have b09 := below2 b08 b9
          go_wp2_with fail
          exact ⟨⟨k + 1, _, _, _, by go_num, by omega, by omega, rfl, by omega, hid X9.out, b09⟩, by simp [intOf]; omega⟩
    · obtain rfl : k = z0.length := by omega
      clear H
      have K1 := hid (l_from X.out.p (by omega) [] 200 (by simp [I64]))
      unfold PrRet at K1
      rw [Tbm.from_nil, List.take_of_length_le (by omega)] at K1
      go_wp2_with fail
      refine (K1.out).mono ?_
      rintro e w2 ⟨A2, c2, rfl, r2, hc2, ha2, b2⟩
      have X2 := hid (X.out.below b2)
      have b02 := below2 hb b2
      have K2 := hid (r_Same A2 A1 m.length m.length c2 c1 m m rfl rfl (by omega) w2 _ _ r2 X2.out.row.1)
      rw [decide_eq_true rfl] at K2
      unfold BoolDraw at K2
      clear K1 X b2 hb r2 ha2
      go_wp2_with fail
      refine (K2.out).mono ?_
      rintro e w3 ⟨rfl, n3, rfl⟩
      have b3 : Below w2.heap.size w2 (w2.drewN n3) := below_drewN (Below.refl _ _) n3
      have X3 := hid (X2.out.below b3)
      have b03 := below2 b02 b3
      generalize w2.drewN n3 = w3 at *
      clear X2 b3 b02 K2
      have K3 := hid (l_from X3.out.q (by omega) [] 200 (by simp [I64]))
      unfold PrRet at K3
      rw [Tbm.from_nil, List.take_of_length_le (by omega)] at K3
      go_wp2_with fail
      refine (K3.out).mono ?_
      rintro e w4 ⟨A4, c4, rfl, r4, hc4, ha4, b4⟩
      have X4 := hid (X3.out.below b4)
      have b04 := below2 b03 b4
      have K4 := hid (r_Same A4 A1 m.length m.length c4 c1 m m rfl rfl (by omega) w4 _ _ r4 X4.out.row.1)
      rw [decide_eq_true rfl] at K4
      unfold BoolDraw at K4
      clear K3 X3 b4 b03 r4 ha4
      go_wp2_with fail
      refine (K4.out).mono ?_
      rintro e w5 ⟨rfl, n5, rfl⟩
      have b5 : Below w4.heap.size w4 (w4.drewN n5) := below_drewN (Below.refl _ _) n5
      have b05 := below2 b04 b5
      generalize w4.drewN n5 = w5 at *
      clear X4 b5 b04 K4
      go_wp2_with fail
      refine (heads _).mono ?_
      rintro e w6 ⟨rfl, b6⟩
      go_wp2_with fail
      go_ret
      exact ⟨rfl, below2 b05 b6⟩

/-! ### THE ROW's STEP: WRITTEN OUT: LEAVE IT -/
set_option maxRecDepth 100000 in
theorem lifted (os : Os) (started : os.Started) (H : Type) (enc : TypeId × Value → H) :
    ReturnsInHanded {} Try.checked os 3 .any (Rows.tableLivesSpec.pre6 enc Try.prog Try.f3 Rows.tableLivesRow.domain false) (Rows.tableLivesSpec.post enc Try.prog Try.f3 false true false false) := by
  refine returnsInHanded_of_change (C := Try.checked) own started (by kernel_rfl) Try.func3
    (ChangeSpec.witness6 (enc := enc) (C := Try.checked) false ⟨#[], #[.slice none 0 0], []⟩ 8 (by kernel_rfl) (by kernel_rfl) (by kernel_rfl) (by kernel_rfl)) ?_
  intro W base args ds gs before hval0 hW hcnd _
  have hval : ∀ (j : Nat) t v, Try.f3.params[j]? = some t → args[j]? = some v → Value.okWide Try.prog W .any base t v := hval0
  have hW' := hW
  obtain ⟨p, q, hA0, hV, rfl, hfz, hnd⟩ := hW
  have hA : DataW.TrodAll enc Try.prog W 0 (fun _ => true) true Try.f3.params.toList args.toList ds p := hA0
  rw [Try.params3] at hA hval
  obtain ⟨v0, vs0, d0, ds0, p0, q0, hargs, rfl, rfl, h0, r0⟩ := trodAll_cons hA
  obtain ⟨rfl, rfl, rfl⟩ := trodAll_nil r0
  obtain rfl : args = #[v0] := by cases args; simp_all
  obtain ⟨rfl, rfl⟩ := trodVars_none hV
  obtain ⟨a0, len0, cap0, rfl⟩ := okWide_slice Try.underlying22 (hval 0 22 v0 rfl rfl)
  have k0 := h0
  have lt0 : ∀ x ∈ p0, x.block < W.heap.size := by obtain ⟨m, hm⟩ := k0; exact DataW.trod_lt m _ _ _ hm
  obtain ⟨z0, w0⟩ : ∃ zs, IsRowO W a0 len0 cap0 zs := by
    obtain ⟨fuel, hf⟩ := h0
    exact open_ops Try.underlying22 Try.underlying33 (by kernel_rfl) (by kernel_rfl) Try.underlying3 Try.underlying9 Try.underlying9 hf
  clear hA0 hval0
  refine (walk a0 len0 cap0 z0 W w0).mono fun e W' ⟨he, bel⟩ => ?_
  subst he
  exact ⟨_, rfl, _, _, _, [], _, [], hW', trodAll_mk1 (shut_bool Try.underlying4 _), (trodAll_cons_mk (Below.trod laidOut (by kernel_rfl) (of_decide_eq_true (by kernel_rfl)) k0 bel lt0) trodAll_mk0), rfl, bel.frame _, fun h => by cases h⟩

theorem over : Rows.tableLivesRow.holds Try.pinned (OpenSpec.ofChange Rows.tableLivesSpec) :=
  OpenClaim.holds_of_wide 3 Try.f3 rfl rfl rfl rfl rfl rfl rfl ⟨rfl, rfl, rfl, rfl, rfl⟩ rfl rfl rfl rfl rfl (by kernel_rfl) Try.func3 (by kernel_rfl)
    (of_decide_eq_true (by kernel_rfl)) (by unfold Func.isWrapper; first | (rw [if_pos (by decide +kernel)]; kernel_rfl) | (rw [if_neg (by decide +kernel)]; exact ⟨rfl, rfl⟩))
    (fun os started H enc _ => lifted os started H enc)

/-- ████ THE STATEMENT ████ -/
theorem proved : Rows.TableLivesSaid := over
#print axioms proved
end Go.Proofs.Ytbkabjnklipmjaa.tableLives
