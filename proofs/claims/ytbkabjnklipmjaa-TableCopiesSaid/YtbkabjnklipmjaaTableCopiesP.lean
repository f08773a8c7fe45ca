/- Proves 'TableCopiesSaid': for every input the Go function TableCopies returns true, and each argument reads afterwards as it read before. Conditions: none beyond the row's own. -/
import Derived.Test.YtbkabjnklipmjaaRows
import Derived.WalkKit
import Derived.ProofKit
import Derived.OpenShut
import Derived.ShutString
import Derived.SliceStrings
import Derived.ChangeOld
import Derived.Below
import Derived.SizedLaws
import Derived.Test.YtbkabjnklipmjaaTabX
namespace Go.Proofs.Ytbkabjnklipmjaa.tableCopies
open Go.ChangeShapes Go.WideShapes Go.ChangeAt Go.RowKit
open Go.ChangeMaps (open_string shut_string)
set_option linter.unusedVariables false

theorem own : ownKnob Try.prog.godebug = none := by kernel_rfl
theorem laidOut : laidOutB Try.prog = true := by kernel_rfl

/-- WHAT THE WALK IS TOLD OF A SLICE OF INTEGERS THAT CAME IN: it is nil; or it leads to a row of 'cap' cells, the numbers 'zs' (the first 'len' are its elements, the rest its spare room), each fitting its kind. -/
def IsRow (k : IntKind) (w : World) (a : Option Addr) (len cap : Nat) (zs : List Int) : Prop :=
  (a = none ∧ len = 0 ∧ cap = 0 ∧ zs = []) ∨
  ∃ x, a = some x ∧ len ≤ cap ∧ cap ≤ maxLen ∧ zs.length = cap ∧ (∀ i, i < zs.length → w.cell? (x.add i) = some (.int k (zs.getD i 0))) ∧ ∀ n ∈ zs, (Lit.int k n).wf = true

/-! ### STEP 1: THE WALK: the Go text returns true, AND WRITES NOTHING THAT WAS THERE: 'Below w.heap.size w w'' (Derived/Below.lean: '.refl', '.alloc', '.drew', '.setCell' at a new block, '.trans'). Open each 'IsRow' by 'rcases' AHEAD of 'go_enter'; part every test ahead of the walk. -/
set_option maxRecDepth 20000 in
set_option maxHeartbeats 16000000 in
theorem walk (a0 : Option Addr) (len0 cap0 : Nat) (z0 : List Opv) (a1 : Option Addr) (len1 cap1 : Nat) (z1 : List Opv) (w : World) (w0 : IsRowO w a0 len0 cap0 z0) (w1 : IsRowO w a1 len1 cap1 z1) (s1 : ∀ o ∈ z1, o.2.2.length ≤ 140737488355328) :
    Calls Try.prog 6 #[.slice a0 len0 cap0, .slice a1 len1 cap1] w fun e w' => e = .returned (.bool true) ∧ Below w.heap.size w w' := by
  obtain ⟨hl, hlc, hcm, hops, _⟩ := w0
  obtain ⟨hl', hlc', hcm', hops', _⟩ := w1
  by_cases hbig : (60 : Int) < len0
  · clear hops hops' s1
    go_enter Try.func6, Try.ntmps6
    go_wp2_with fail
    refine (heads _).mono ?_
    rintro e w' ⟨rfl, b⟩
    go_wp2_with fail
    go_ret
    exact ⟨rfl, b⟩
  by_cases hbig2 : (60 : Int) < len1
  · clear hops hops' s1
    go_enter Try.func6, Try.ntmps6
    go_wp2_with fail
    refine (heads _).mono ?_
    rintro e w' ⟨rfl, b⟩
    go_wp2_with fail
    go_ret
    exact ⟨rfl, b⟩
  have hb1 : (len0 : Int) ≤ 60 := by omega
  have hb2 : (len1 : Int) ≤ 60 := by omega
  clear hbig hbig2
  have M := hid (l_made a0 len0 cap0 z0 hl (by omega) _ w (Nat.le_refl _) hops)
  unfold MadeRet at M
  have hml : (madeM z0).length ≤ 60 := by
    have := (madeM_facts z0 z0.length).2
    rw [List.take_length] at this
    omega
  have hsr : Tbm.Srt (madeM z0) := by
    have := (madeM_facts z0 z0.length).1
    rwa [List.take_length] at this
  generalize madeM z0 = m at *
  have H := hid hops'
  clear hops hops'
  go_enter Try.func6, Try.ntmps6
  go_wp2_with fail
  refine (M.out).mono ?_
  rintro e w1 ⟨p, A, c, rfl, hc, hT, b1⟩
  have K1 := hid (apt_Copy hT.tb b1.size (by omega))
  clear hT M
  go_wp2_with fail
  refine (K1.out).mono ?_
  rintro e w2 ⟨q, rfl, hX2, b2⟩
  have X2 := hid hX2
  clear hX2
  have b12 := below2 b1 b2
  have K2 := hid (l_from X2.out.p (by omega) [] 200 (by simp [I64]))
  unfold PrRet at K2
  rw [Tbm.from_nil, List.take_of_length_le (by omega)] at K2
  clear K1 b1 b2
  go_wp2_with fail
  refine (K2.out).mono ?_
  rintro e w3 ⟨A3, c3, rfl, r3, hc3, ha3, b3⟩
  have X3 := hid (X2.out.row1 b3 r3 ha3)
  have b13 := below2 b12 b3
  clear K2 X2 b12 b3 r3 ha3
  go_wp2_with fail
  go_loopw [9] (fun iv wr => ∃ (k : Nat) (mp : List Tbm.Kv), iv = .int .i64 k ∧ k ≤ z1.length ∧ Hid (mp = putsM m (z1.take k)) ∧ Hid (Apt w.heap.size wr p q mp m A3 none m []) ∧ Below w.heap.size w wr) (fun iv _ => z1.length - (intOf iv).toNat)
  case atStart => exact ⟨0, m, rfl, Nat.zero_le _, hid rfl, X3, b13⟩
  case round =>
    clear X3 b13
    obtain ⟨k, mp, rfl, hk, hmm, X, hb⟩ := hrel
    have hpl : mp.length ≤ 60 + k := by
      have := (putsM_facts hsr z1 k).2
      rw [← hmm.out] at this
      omega
    by_cases hlt : k < z1.length
    · obtain ⟨b0, o0, kd, key, vl, rfl, hbB, Hx, hc0, hc1, hc2⟩ := Ops.get (H.out.below hb (Nat.le_refl _)) hlt
      have Hn := hid (putsM_next m z1 k _ Hx.out)
      rw [← hmm.out] at Hn
      have hvl : vl.length ≤ 140737488355328 := s1 _ (List.mem_of_getElem? Hx.out)
      have hsz : (bs vl).size ≤ 140737488355328 := by rw [bs_size]; exact hvl
      have hx1 : ¬ (9223372036854775807 < (bs vl).size + 1) := by omega
      have hx2 : ¬ (9223372036854775807 ≤ (bs vl).size) := by omega
      have hx3 : ¬ ((bs vl).size + 1 > 9223372036854775807) := by omega
      have i1 : (0 : Int) ≤ (k : Int) := by omega
      have i2 : (k : Int) < (z1.length : Int) := by omega
      have C1 := hid (apt_put (X.out.below (Below.refl wr.heap.size wr).drew) hb.size (by omega) key (vl ++ [120]))
      rw [show txt (vl ++ [120]) = .string (bs vl ++ ByteArray.mk #[120]) from by unfold txt; rw [← bs_append]; rfl] at C1
      have hd1 : wr.drew.cell? ⟨b0, o0 + k * 3 + 1, none⟩ = some (txt key) := hc1
      have hd2 : wr.drew.cell? ⟨b0, o0 + k * 3 + 2, none⟩ = some (txt vl) := hc2
      have hbw : b0 < w.heap.size := by omega
      clear X hc0
      go_wp2_with fail
      go_region_held3 (fun X => X.cell? ⟨b0, o0 + k * 3 + 1, none⟩ = some (txt key) ∧ X.cell? ⟨b0, o0 + k * 3 + 2, none⟩ = some (txt vl)) (first | exact ⟨hd1, hd2⟩ | exact hS2) (first | (go_at_call 13; refine (C1.out).mono ?_; rintro e w4 ⟨rfl, X4, b4⟩; have hS2 := And.intro ((b4.cell (p := ⟨b0, o0 + k * 3 + 1, none⟩) hbw).trans hd1) ((b4.cell (p := ⟨b0, o0 + k * 3 + 2, none⟩) hbw).trans hd2)))
      have hb2' : Below w.heap.size wr w4 := (Below.refl _ wr).drew.trans b4
      have hb02 := hb.trans hb2'
      clear hS2 hd1 hd2 hc1 hc2
      go_wp2_with fail
      refine ⟨⟨k + 1, _, by go_num, by omega, hid Hn.out.symm, hid X4, hb02⟩, by simp [intOf]; omega⟩
    · obtain rfl : k = z1.length := by omega
      rw [List.take_length] at hmm
      have hmsr : Tbm.Srt mp := by
        have := (putsM_facts hsr z1 z1.length).1
        rw [List.take_length] at this
        rw [hmm.out]; exact this
      clear hmm s1 H
      have K3 := hid (l_from X.out.q (by omega) [] 200 (by simp [I64]))
      unfold PrRet at K3
      rw [Tbm.from_nil, List.take_of_length_le (by omega)] at K3
      go_wp2_with fail
      refine (K3.out).mono ?_
      rintro e w4 ⟨A4, c4, rfl, r4, hc4, ha4, b4⟩
      have X4 := hid (X.out.below b4)
      have b04 := below2 hb b4
      have K4 := hid (r_Same A4 A3 m.length m.length c4 c3 m m rfl rfl (by omega) w4 _ _ r4 X4.out.row.1)
      rw [decide_eq_true rfl] at K4
      unfold BoolDraw at K4
      clear K3 X r4 ha4
      go_wp2_with fail
      refine (K4.out).mono ?_
      rintro e w5 ⟨rfl, n5, rfl⟩
      have b5 : Below w4.heap.size w4 (w4.drewN n5) := below_drewN (Below.refl _ _) n5
      have X5 := hid (X4.out.below b5)
      have b05 := below2 b04 b5
      generalize w4.drewN n5 = w5 at *
      clear X4 b4 b04 K4 b5
      have K5 := hid (l_from X5.out.p (by omega) [] 200 (by simp [I64]))
      unfold PrRet at K5
      rw [Tbm.from_nil, List.take_of_length_le (by omega)] at K5
      go_wp2_with fail
      refine (K5.out).mono ?_
      rintro e w6 ⟨A6, c6, rfl, r6, hc6, ha6, b6⟩
      have X6 := hid (X5.out.row2 b6 r6 ha6)
      have b06 := below2 b05 b6
      clear K5 X5 b05 b6 r6 ha6
      go_wp2_with fail
      go_loopw [11] (fun iv wr => ∃ (k : Nat) (mq : List Tbm.Kv), iv = .int .i64 k ∧ k ≤ m.length ∧ Hid (mq = delsM m (m.take k)) ∧ mq.length ≤ m.length ∧ Hid (Apt w.heap.size wr q p mq mp A3 A6 m mp) ∧ Below w.heap.size w wr) (fun iv _ => m.length - (intOf iv).toNat)
      case atStart => exact ⟨0, m, rfl, Nat.zero_le _, hid rfl, Nat.le_refl _, hid X6.out.swap, b06⟩
      case round =>
        clear X6 b06 hb
        obtain ⟨k, mq, rfl, hk, hmm, hql, X, hb⟩ := hrel
        by_cases hlt : k < m.length
        · obtain ⟨b0, o0, key, vl, rfl, hbB, Hx, hc0, hc1⟩ := Prs.get X.out.row.1 hlt
          have Hn := hid (delsM_next m m k _ Hx.out)
          rw [← hmm.out] at Hn
          have hnl : (Tbm.del mq key).length ≤ m.length := Nat.le_trans (List.length_filter_le _ _) hql
          have i1 : (0 : Int) ≤ (k : Int) := by omega
          have i2 : (k : Int) < (m.length : Int) := by omega
          have C1 := hid (apt_del X.out hb.size (by omega) key)
          go_wp2_with fail
          refine (C1.out).mono ?_
          rintro e w7 ⟨rfl, X7, b7⟩
          go_wp2_with fail
          refine ⟨⟨k + 1, _, by go_num, by omega, hid Hn.out.symm, hnl, hid X7, hb.trans b7⟩, by simp [intOf]; omega⟩
        · obtain rfl : k = m.length := by omega
          rw [List.take_length, delsM_all] at hmm
          have hq0 := hmm.out
          clear hmm hql
          subst hq0
          have K7 := hid (o_Len X.out.p (by simp))
          unfold LenRet at K7
          go_wp2_with fail
          refine (K7.out).mono ?_
          rintro e w7 ⟨rfl, b7⟩
          have X7 := hid (X.out.below b7)
          have b07 := below2 hb b7
          have K8 := hid (l_from X7.out.q (by omega) [] 200 (by simp [I64]))
          unfold PrRet at K8
          rw [Tbm.from_nil, List.take_of_length_le (by omega)] at K8
          clear X K7 b7 hb
          go_wp2_with fail
          refine (K8.out).mono ?_
          rintro e w8 ⟨A8, c8, rfl, r8, hc8, ha8, b8⟩
          have X8 := hid (X7.out.below b8)
          have b08 := below2 b07 b8
          have K9 := hid (r_Same A8 A6 mp.length mp.length c8 c6 mp mp rfl rfl (by omega) w8 _ _ r8 X8.out.row.2)
          rw [decide_eq_true rfl] at K9
          unfold BoolDraw at K9
          clear X7 K8 b07 b8 r8
          go_wp2_with fail
          refine (K9.out).mono ?_
          rintro e w9 ⟨rfl, n9, rfl⟩
          have b9 : Below w8.heap.size w8 (w8.drewN n9) := below_drewN (Below.refl _ _) n9
          have b09 := below2 b08 b9
          clear K9
          generalize w8.drewN n9 = w9 at *
          go_wp2_with fail
          refine (heads _).mono ?_
          rintro e w10 ⟨rfl, b10⟩
          go_wp2_with fail
          go_ret
          exact ⟨rfl, below2 b09 b10⟩

/-! ### THE ROW's STEP: WRITTEN OUT: LEAVE IT -/
set_option maxRecDepth 100000 in
theorem lifted (os : Os) (started : os.Started) (H : Type) (enc : TypeId × Value → H) :
    ReturnsInHanded {} Try.checked os 6 .any (Rows.tableCopiesSpec.pre6 enc Try.prog Try.f6 Rows.tableCopiesRow.domain false) (Rows.tableCopiesSpec.post enc Try.prog Try.f6 false true false false) := by
  refine returnsInHanded_of_change_sized (C := Try.checked) own started (by kernel_rfl) Try.func6
    (ChangeSpec.witness6 (enc := enc) (C := Try.checked) false ⟨#[], #[.slice none 0 0, .slice none 0 0], []⟩ 8 (by kernel_rfl) (by kernel_rfl) (by kernel_rfl) (by kernel_rfl)) ?_
  intro W base args ds gs before hval0 hW hcnd hsz0 _
  have hval : ∀ (j : Nat) t v, Try.f6.params[j]? = some t → args[j]? = some v → Value.okWide Try.prog W .any base t v := hval0
  have hW' := hW
  obtain ⟨p, q, hA0, hV, rfl, hfz, hnd⟩ := hW
  have hA : DataW.TrodAll enc Try.prog W 0 (fun _ => true) true Try.f6.params.toList args.toList ds p := hA0
  rw [Try.params6] at hA hval
  obtain ⟨v0, vs0, d0, ds0, p0, q0, hargs, rfl, rfl, h0, r0⟩ := trodAll_cons hA
  obtain ⟨v1, vs1, d1, ds1, p1, q1, rfl, rfl, rfl, h1, r1⟩ := trodAll_cons r0
  obtain ⟨rfl, rfl, rfl⟩ := trodAll_nil r1
  obtain rfl : args = #[v0, v1] := by cases args; simp_all
  obtain ⟨rfl, rfl⟩ := trodVars_none hV
  obtain ⟨a0, len0, cap0, rfl⟩ := okWide_slice Try.underlying22 (hval 0 22 v0 rfl rfl)
  have k0 := h0
  have lt0 : ∀ x ∈ p0, x.block < W.heap.size := by obtain ⟨m, hm⟩ := k0; exact DataW.trod_lt m _ _ _ hm
  obtain ⟨z0, w0⟩ : ∃ zs, IsRowO W a0 len0 cap0 zs := by
    obtain ⟨fuel, hf⟩ := h0
    exact open_ops Try.underlying22 Try.underlying33 (by kernel_rfl) (by kernel_rfl) Try.underlying3 Try.underlying9 Try.underlying9 hf
  obtain ⟨a1, len1, cap1, rfl⟩ := okWide_slice Try.underlying22 (hval 1 22 v1 rfl rfl)
  have k1 := h1
  have lt1 : ∀ x ∈ p1, x.block < W.heap.size := by obtain ⟨m, hm⟩ := k1; exact DataW.trod_lt m _ _ _ hm
  obtain ⟨z1, w1, s1⟩ : ∃ zs, IsRowO W a1 len1 cap1 zs ∧ ∀ o ∈ zs, o.2.2.length ≤ 140737488355328 := by
    obtain ⟨fuel, hf⟩ := h1
    obtain ⟨l, g1, g2⟩ := open_ops_w Try.underlying22 Try.underlying33 (by kernel_rfl) (by kernel_rfl) Try.underlying3 Try.underlying9 Try.underlying9 hf (fun n => n ≤ reachBytes) (fun n hn => by
      have := List.all_eq_true.1 hsz0 n (DataW.weights_mem_each (j := 1) rfl rfl n hn)
      simpa using this)
    exact ⟨l, g1, fun o ho => Nat.le_trans (g2 o ho).2 (Nat.le_of_lt reachBytes_lt)⟩
  clear hA0 hval0
  refine (walk a0 len0 cap0 z0 a1 len1 cap1 z1 W w0 w1 s1).mono fun e W' ⟨he, bel⟩ => ?_
  subst he
  exact ⟨_, rfl, _, _, _, [], _, [], hW', trodAll_mk1 (shut_bool Try.underlying4 _), (trodAll_cons_mk (Below.trod laidOut (by kernel_rfl) (of_decide_eq_true (by kernel_rfl)) k0 bel lt0) (trodAll_cons_mk (Below.trod laidOut (by kernel_rfl) (of_decide_eq_true (by kernel_rfl)) k1 bel lt1) trodAll_mk0)), rfl, bel.frame _, fun h => by cases h⟩

theorem over : Rows.tableCopiesRow.holds Try.pinned (OpenSpec.ofChange Rows.tableCopiesSpec) :=
  OpenClaim.holds_of_wide 6 Try.f6 rfl rfl rfl rfl rfl rfl rfl ⟨rfl, rfl, rfl, rfl, rfl⟩ rfl rfl rfl rfl rfl (by kernel_rfl) Try.func6 (by kernel_rfl)
    (of_decide_eq_true (by kernel_rfl)) (by unfold Func.isWrapper; first | (rw [if_pos (by decide +kernel)]; kernel_rfl) | (rw [if_neg (by decide +kernel)]; exact ⟨rfl, rfl⟩))
    (fun os started H enc _ => lifted os started H enc)

/-- ████ THE STATEMENT ████ -/
theorem proved : Rows.TableCopiesSaid := over
#print axioms proved
end Go.Proofs.Ytbkabjnklipmjaa.tableCopies
