/- Proves 'TableFromSaid': for every input the Go function TableFrom returns true, and each argument reads afterwards as it read before. Conditions: none beyond the row's own. -/
import Derived.Test.YtbkabjnklipmjaaRows
import Derived.WalkKit
import Derived.ProofKit
import Derived.OpenShut
import Derived.ShutString
import Derived.SliceStrings
import Derived.ChangeOld
import Derived.Below
import Derived.Test.YtbkabjnklipmjaaTabX
namespace Go.Proofs.Ytbkabjnklipmjaa.tableFrom
open Go.ChangeShapes Go.WideShapes Go.ChangeAt Go.RowKit
open Go.ChangeMaps (open_string shut_string)
set_option linter.unusedVariables false

theorem own : ownKnob Try.prog.godebug = none := by kernel_rfl
theorem laidOut : laidOutB Try.prog = true := by kernel_rfl

/-- WHAT THE WALK IS TOLD OF A SLICE OF INTEGERS THAT CAME IN: it is nil; or it leads to a row of 'cap' cells, the numbers 'zs' (the first 'len' are its elements, the rest its spare room), each fitting its kind. -/
def IsRow (k : IntKind) (w : World) (a : Option Addr) (len cap : Nat) (zs : List Int) : Prop :=
  (a = none ∧ len = 0 ∧ cap = 0 ∧ zs = []) ∨
  ∃ x, a = some x ∧ len ≤ cap ∧ cap ≤ maxLen ∧ zs.length = cap ∧ (∀ i, i < zs.length → w.cell? (x.add i) = some (.int k (zs.getD i 0))) ∧ ∀ n ∈ zs, (Lit.int k n).wf = true

open Go.Shelf
attribute [local go_sem] Oper.semAt_some

/-! ### STEP 1: THE WALK: the Go text returns true, AND WRITES NOTHING THAT WAS THERE: 'Below w.heap.size w w'' (Derived/Below.lean: '.refl', '.alloc', '.drew', '.setCell' at a new block, '.trans'). Open each 'IsRow' by 'rcases' AHEAD of 'go_enter'; part every test ahead of the walk. -/
set_option maxRecDepth 20000 in
set_option maxHeartbeats 16000000 in
theorem walk (a0 : Option Addr) (len0 cap0 : Nat) (z0 : List Opv) (a1 : Option Addr) (len1 cap1 : Nat) (z1 : List Opv) (a2 : ByteArray) (a3 : Int) (w : World) (w0 : IsRowO w a0 len0 cap0 z0) (w1 : IsRowO w a1 len1 cap1 z1) (w2 : a2.size ≤ maxLen) (w3 : (Lit.int .u8 a3).wf = true) :
    Calls Try.prog 5 #[.slice a0 len0 cap0, .slice a1 len1 cap1, .string a2, .int .u8 a3] w fun e w' => e = .returned (.bool true) ∧ Below w.heap.size w w' := by
  obtain ⟨hl, hlc, hcm, hops, _⟩ := w0
  obtain ⟨hl', hlc', hcm', hops', _⟩ := w1
  obtain ⟨key, rfl⟩ : ∃ l, a2 = bs l := ⟨_, (of_bs a2).symm⟩
  obtain ⟨k1, k2⟩ := bounds_u8 w3
  obtain ⟨mst, rfl⟩ : ∃ m : Nat, a3 = m := ⟨a3.toNat, by omega⟩
  clear w2 w3
  by_cases hbig : (100 : Int) < len0
  · clear hops hops'
    refine (callsIn_wide (n := 6)).1 ?_
    refine callsIn_of_wp_marks Try.func5 rfl trivial ?_ rfl
    simp only [Try.ntmps5, List.size_toArray, List.length_cons, List.length_nil, Nat.reduceAdd, Nat.reduceSub, Array.replicate_succ, Array.replicate_zero, List.push_toArray, List.append_toArray, List.nil_append, List.cons_append]
    gi_wp2
    refine ⟨trivial, (callsIn_wide.2 (heads _)).mono ?_⟩
    rintro e w' ⟨rfl, b⟩
    gi_wp2
    exact ⟨.bool true, by simp [results, Try.f5, go_sem], rfl, b⟩
  by_cases hbig2 : (40 : Int) < len1
  · clear hops hops'
    refine (callsIn_wide (n := 6)).1 ?_
    refine callsIn_of_wp_marks Try.func5 rfl trivial ?_ rfl
    simp only [Try.ntmps5, List.size_toArray, List.length_cons, List.length_nil, Nat.reduceAdd, Nat.reduceSub, Array.replicate_succ, Array.replicate_zero, List.push_toArray, List.append_toArray, List.nil_append, List.cons_append]
    gi_wp2
    refine ⟨trivial, (callsIn_wide.2 (heads _)).mono ?_⟩
    rintro e w' ⟨rfl, b⟩
    gi_wp2
    exact ⟨.bool true, by simp [results, Try.f5, go_sem], rfl, b⟩
  have hb1 : (len0 : Int) ≤ 100 := by omega
  have hb2 : (len1 : Int) ≤ 40 := by omega
  clear hbig hbig2
  have M := hid (l_made a0 len0 cap0 z0 hl (by omega) _ w (Nat.le_refl _) hops)
  unfold MadeRet at M
  have hml : (madeM z0).length ≤ 100 := by
    have := (madeM_facts z0 z0.length).2
    rw [List.take_length] at this
    omega
  generalize madeM z0 = m at *
  have H := hid hops'
  clear hops hops'
  refine (callsIn_wide (n := 6)).1 ?_
  refine callsIn_of_wp_marks Try.func5 rfl trivial ?_ rfl
  simp only [Try.ntmps5, List.size_toArray, List.length_cons, List.length_nil, Nat.reduceAdd, Nat.reduceSub, Array.replicate_succ, Array.replicate_zero, List.push_toArray, List.append_toArray, List.nil_append, List.cons_append]
  gi_wp2
  refine ⟨trivial, (callsIn_wide.2 M.out).mono ?_⟩
  rintro e w1 ⟨p, A, c, rfl, hc, hT, b1⟩
  have FR := hid (r_From A m.length c m rfl hc (by omega) key _ w1 hT.prs)
  unfold FrRet at FR
  have hfl : (Tbm.from_ m key).length ≤ m.length := by unfold Tbm.from_; rw [List.length_drop]; omega
  have Hfl := hid hfl
  gi_wp2
  refine ⟨trivial, (callsIn_wide.2 FR.out).mono ?_⟩
  rintro e w2 ⟨A2, c2, rfl, rfl, hc2, hwant⟩
  have HW := hid hwant
  have PF := hid (two_from hT (by omega) key)
  unfold TfRet at PF
  clear hwant FR
  generalize hfm : Tbm.from_ m key = fm at *
  have Hfm := hid hfm
  clear hfm
  gi_wp2
  refine ⟨trivial, (callsIn_wide.2 PF.out).mono ?_⟩
  rintro e w3 ⟨gf, lb, rfl, hen, b3, S, hX3, hS, hseq⟩
  have hnil := fun (w : World) => run_eql_func_nil (P := Try.prog) w 50 Try.underlying50 (.func gf) #[] lb
  have X3 := hid hX3
  clear hX3
  have b03 := below2 b1 b3
  have K4 := hid (l_from (X3.out.tb.below (Below.refl w3.heap.size w3).drew) (by omega) key (mst : Int) (by unfold I64; omega))
  unfold PrRet at K4
  rw [Hfm.out, Int.toNat_natCast] at K4
  obtain ⟨T, HT⟩ : ∃ T, Hid (fm.take mst = T) := ⟨_, hid rfl⟩
  rw [HT.out] at K4
  obtain ⟨K, hK0⟩ : ∃ K, min fm.length mst = K := ⟨_, rfl⟩
  have hmn : (if mst < fm.length then (mst : Int) else (fm.length : Int)) = (K : Int) := by rw [← hK0]; split <;> (congr 1; omega)
  have hmw : IntKind.i64.wrap (mst : Int) = (mst : Int) := by rw [IntKind.wrap_i64]; omega
  gi_wp2
  refine wpIn_wide.2 ?_
  refine wp_region_noPanic ?_
  refine wp_region_held_drew (S := fun _ => True) (by kernel_rfl) trivial (fun hHeld => ?_)
  refine takeH 0 37 (.func (.func gf) #[] lb) rfl rfl (by kernel_rfl) (by kernel_rfl) (by kernel_rfl) (fun _ _ _ h => h) (by kernel_rfl) (fun X hX => by clear hX; first | rfl | go_simp) hHeld ?_
  simp only [Act.put, List.setIfInBounds_toArray, List.set_cons_zero, List.set_cons_succ]
  refine takeH 1 38 (.bool false) rfl rfl (by kernel_rfl) (by kernel_rfl) (by kernel_rfl) (fun _ _ _ h => h) (by kernel_rfl) (fun X hX => by clear hX; first | rfl | go_simp) hHeld ?_
  simp only [Act.put, List.setIfInBounds_toArray, List.set_cons_zero, List.set_cons_succ]
  refine takeH 2 39 (.bool false) rfl rfl (by kernel_rfl) (by kernel_rfl) (by kernel_rfl) (fun _ _ _ h => h) (by kernel_rfl) (fun X hX => by clear hX; first | rfl | go_simp) hHeld ?_
  simp only [Act.put, List.setIfInBounds_toArray, List.set_cons_zero, List.set_cons_succ]
  refine takeH 3 40 (ptr p) rfl rfl (by kernel_rfl) (by kernel_rfl) (by kernel_rfl) (fun _ _ _ h => h) (by kernel_rfl) (fun X hX => by clear hX; first | rfl | go_simp) hHeld ?_
  simp only [Act.put, List.setIfInBounds_toArray, List.set_cons_zero, List.set_cons_succ]
  refine takeH 4 41 (txt key) rfl rfl (by kernel_rfl) (by kernel_rfl) (by kernel_rfl) (fun _ _ _ h => h) (by kernel_rfl) (fun X hX => by clear hX; first | rfl | go_simp) hHeld ?_
  simp only [Act.put, List.setIfInBounds_toArray, List.set_cons_zero, List.set_cons_succ]
  refine takeH 5 42 (.int .u8 (mst : Int)) rfl rfl (by kernel_rfl) (by kernel_rfl) (by kernel_rfl) (fun _ _ _ h => h) (by kernel_rfl) (fun X hX => by clear hX; first | rfl | go_simp) hHeld ?_
  simp only [Act.put, List.setIfInBounds_toArray, List.set_cons_zero, List.set_cons_succ]
  refine takeH 6 43 (.int .i64 (mst : Int)) rfl rfl (by kernel_rfl) (by kernel_rfl) (by kernel_rfl) (fun _ _ _ h => h) (by kernel_rfl) (fun X hX => by clear hX; go_simp) hHeld ?_
  simp only [Act.put, List.setIfInBounds_toArray, List.set_cons_zero, List.set_cons_succ]
  refine takeH 8 45 (.slice A2 fm.length c2) rfl rfl (by kernel_rfl) (by kernel_rfl) (by kernel_rfl) (fun _ _ _ h => h) (by kernel_rfl) (fun X hX => by clear hX; first | rfl | go_simp) hHeld ?_
  simp only [Act.put, List.setIfInBounds_toArray, List.set_cons_zero, List.set_cons_succ]
  refine takeH 9 46 (.slice A2 fm.length c2) rfl rfl (by kernel_rfl) (by kernel_rfl) (by kernel_rfl) (fun _ _ _ h => h) (by kernel_rfl) (fun X hX => by clear hX; first | rfl | go_simp) hHeld ?_
  simp only [Act.put, List.setIfInBounds_toArray, List.set_cons_zero, List.set_cons_succ]
  refine takeH 10 47 (.int .i64 (fm.length : Int)) rfl rfl (by kernel_rfl) (by kernel_rfl) (by kernel_rfl) (fun _ _ _ h => h) (by kernel_rfl) (fun X hX => by clear hX; first | rfl | go_simp) hHeld ?_
  simp only [Act.put, List.setIfInBounds_toArray, List.set_cons_zero, List.set_cons_succ]
  refine takeH 11 48 (.int .u8 (mst : Int)) rfl rfl (by kernel_rfl) (by kernel_rfl) (by kernel_rfl) (fun _ _ _ h => h) (by kernel_rfl) (fun X hX => by clear hX; first | rfl | go_simp) hHeld ?_
  simp only [Act.put, List.setIfInBounds_toArray, List.set_cons_zero, List.set_cons_succ]
  refine takeH 12 49 (.int .i64 (mst : Int)) rfl rfl (by kernel_rfl) (by kernel_rfl) (by kernel_rfl) (fun _ _ _ h => h) (by kernel_rfl) (fun X hX => by clear hX; go_simp) hHeld ?_
  simp only [Act.put, List.setIfInBounds_toArray, List.set_cons_zero, List.set_cons_succ]
  refine takeH 13 50 (.int .i64 (K : Int)) rfl rfl (by kernel_rfl) (by kernel_rfl) (by kernel_rfl) (fun _ _ _ h => h) (by kernel_rfl) (fun X hX => by clear hX; go_simp) hHeld ?_
  simp only [Act.put, List.setIfInBounds_toArray, List.set_cons_zero, List.set_cons_succ]
  refine takeH 14 51 (.slice A2 K c2) rfl rfl (by kernel_rfl) (by kernel_rfl) (by kernel_rfl) (fun _ _ _ h => h) (by kernel_rfl) (fun X hX => by clear hX; go_simp; intro hx; exfalso; omega) hHeld ?_
  simp only [Act.put, List.setIfInBounds_toArray, List.set_cons_zero, List.set_cons_succ]
  refine wpAnyH_ready (rs := [7]) (by kernel_rfl) (by simp) ?_
  refine AllReadyH.cons rfl (fun KK hK => ?_) AllReadyH.nil
  simp only [List.getElem_toArray, List.getElem_cons_succ, List.getElem_cons_zero]
  go_simp
  refine (K4.out).mono ?_
  rintro e w4 ⟨A4, c4, rfl, r4, hc4, ha4, b4⟩
  have b34 : Below w3.heap.size w3 w4 := (Below.refl _ w3).drew.trans b4
  have X4 := hid (X3.out.below b34)
  have b04 := below2 b03 b34
  have hKl : K ≤ fm.length := by omega
  have hkt : T = fm.take K := by rw [← HT.out, ← hK0]; exact take_min fm mst
  have K5 := hid (r_Same A4 A2 T.length K c4 c2 T (fm.take K) rfl (by rw [List.length_take]; omega) (by rw [← HT.out, List.length_take]; omega) w4 _ _ r4 ((HW.out _ _ X4.out.row).take K))
  rw [decide_eq_true hkt] at K5
  unfold BoolDraw at K5
  have hKl' := hid hKl
  clear hkt hK0 r4 hmn hmw hKl
  refine hK.out _ _ trivial (fun hHeld => ?_)
  clear hK KK
  try simp only [Act.put, List.setIfInBounds_toArray, List.set_cons_zero, List.set_cons_succ]
  refine wpAnyH_ready (rs := [15]) (by kernel_rfl) (by simp) ?_
  refine AllReadyH.cons rfl (fun KK hK => ?_) AllReadyH.nil
  simp only [List.getElem_toArray, List.getElem_cons_succ, List.getElem_cons_zero]
  go_simp
  refine (K5.out).mono ?_
  rintro e w5 ⟨rfl, n5, rfl⟩
  refine hK.out _ _ trivial (fun hHeld => ?_)
  clear hK KK
  try simp only [Act.put, List.setIfInBounds_toArray, List.set_cons_zero, List.set_cons_succ]
  refine takeH 16 53 (.bool false) rfl rfl (by kernel_rfl) (by kernel_rfl) (by kernel_rfl) (fun _ _ _ h => h) (by kernel_rfl) (fun X hX => by clear hX; first | rfl | go_simp) hHeld ?_
  simp only [Act.put, List.setIfInBounds_toArray, List.set_cons_zero, List.set_cons_succ]
  refine takeH 17 54 (.bool false) rfl rfl (by kernel_rfl) (by kernel_rfl) (by kernel_rfl) (fun _ _ _ h => h) (by kernel_rfl) (fun X hX => by clear hX; first | rfl | go_simp) hHeld ?_
  simp only [Act.put, List.setIfInBounds_toArray, List.set_cons_zero, List.set_cons_succ]
  refine wpAnyH_done (by kernel_rfl) ?_ _
  refine NoPanic.normal ?_
  have b5 : Below w4.heap.size w4 (w4.drewN n5) := below_drewN (Below.refl _ _) n5
  have X5 := hid (X4.out.below b5)
  have b05 := below2 b04 b5
  have b35 := below2 b34 b5
  generalize w4.drewN n5 = w5 at *
  clear X4 b4 b34 b04 b5 K4 K5 HT ha4 hc4 hHeld X3
  have hs35 := b35.size
  gi_wp2
  gi_loopw [13] (fun iv wr => ∃ (k : Nat) (mt : List Tbm.Kv), iv = .int .i64 k ∧ k ≤ z1.length ∧ mt.length ≤ 100 + k ∧ Hid (Snp w.heap.size wr p mt S w3 A m) ∧ Below w.heap.size w wr ∧ w3.heap.size ≤ wr.heap.size) (fun iv _ => z1.length - (intOf iv).toNat)
  case atStart => exact ⟨0, m, rfl, Nat.zero_le _, hml, X5, b05, hs35⟩
  case round =>
    clear X5 b05 hs35 b35
    obtain ⟨k, mt, rfl, hk, htl, X, hb, hs3⟩ := hrel
    by_cases hlt : k < z1.length
    · obtain ⟨b0, o0, kd, ky, vl, rfl, hbB, Hx, hc0, hc1, hc2⟩ := Ops.get (H.out.below hb (Nat.le_refl _)) hlt
      have i1 : (0 : Int) ≤ (k : Int) := by omega
      have i2 : (k : Int) < (z1.length : Int) := by omega
      have hbs := hb.size
      by_cases h2 : kd = 2
      · subst h2
        have C1 := hid (snp_del X.out hbs (by omega) ky)
        have hnl : (Tbm.del mt ky).length ≤ 100 + (k + 1) := Nat.le_trans (List.length_filter_le _ _) (by omega)
        clear hc2
        gi_wp2
        refine ⟨trivial, (callsIn_wide.2 C1.out).mono ?_⟩
        rintro e w6 ⟨rfl, X6, b6⟩
        have hs6 := b6.size
        gi_wp2
        exact ⟨⟨k + 1, _, by go_num, by omega, hnl, hid X6, hb.trans b6, by omega⟩, by simp [intOf]; omega⟩
      · have hk2 : (kd == 2) = false := by rw [beq_eq_false_iff_ne]; exact h2
        have C1 := hid (snp_put (X.out.below (Below.refl wr.heap.size wr).drew) hbs (by omega) ky vl)
        have hnl : (Tbm.put mt ky vl).length ≤ 100 + (k + 1) := by rw [Tbm.len_put X.out.tb.srt]; split <;> omega
        have hd1 : wr.drew.cell? ⟨b0, o0 + k * 3 + 1, none⟩ = some (txt ky) := hc1
        have hd2 : wr.drew.cell? ⟨b0, o0 + k * 3 + 2, none⟩ = some (txt vl) := hc2
        have hbw : b0 < w.heap.size := by omega
        clear h2
        gi_wp2
        refine wpIn_wide.2 ?_
        go_region_held3 (fun X => X.cell? ⟨b0, o0 + k * 3 + 1, none⟩ = some (txt ky) ∧ X.cell? ⟨b0, o0 + k * 3 + 2, none⟩ = some (txt vl)) (first | exact ⟨hd1, hd2⟩ | exact hS2) (first | (go_at_call 13; refine (C1.out).mono ?_; rintro e w6 ⟨rfl, X6, b6⟩; have hS2 := And.intro ((b6.cell (p := ⟨b0, o0 + k * 3 + 1, none⟩) hbw).trans hd1) ((b6.cell (p := ⟨b0, o0 + k * 3 + 2, none⟩) hbw).trans hd2)))
        have hb6' : Below w.heap.size wr w6 := (Below.refl _ wr).drew.trans b6
        have hs6 := hb6'.size
        clear hS2 hd1 hd2 hc1 hc2
        gi_wp2
        exact ⟨⟨k + 1, _, by go_num, by omega, hnl, hid X6, hb.trans hb6', by omega⟩, by simp [intOf]; omega⟩
    · obtain rfl : k = z1.length := by omega
      clear H
      gi_wp2
      have B14 := Boxed.new wr 29 (.slice none 0 0)
      have hszA : (wr.alloc (.cells #[.slice none 0 0] 29)).heap.size = wr.heap.size + 1 := by simp
      have ba := below_alloc wr (.cells #[.slice none 0 0] 29)
      obtain ⟨W4, hW4⟩ : ∃ W4, wr.alloc (.cells #[.slice none 0 0] 29) = W4 := ⟨_, rfl⟩
      rw [hW4] at B14 hszA ba ⊢
      clear hW4
      have RW := hid (HW.out _ _ X.out.row)
      have hsS : ∀ b, S b → W4.heap[b]? = w3.heap[b]? := fun b hS' => (ba.block b (by have := (hS b hS').2; omega)).trans (X.out.s b hS')
      have hSn : ∀ b, S b → b < wr.heap.size := fun b hS' => by have := (hS b hS').2; omega
      clear X HW
      obtain ⟨NB, hNB⟩ : ∃ NB, wr.heap.size = NB := ⟨_, rfl⟩
      rw [hNB] at B14 hszA ba RW hSn hs3 ⊢
      have hbs := hb.size
      rw [hNB] at hbs
      have hw3 : NB ≤ W4.heap.size := by omega
      have hSl : ∀ b, S b → b < W4.heap.size := fun b hb => by have := hSn b hb; omega
      have hSL : ∀ b, S b → b ≠ NB := fun b hb => by have := hSn b hb; omega
      obtain ⟨i0, hi, hz0, hz1, hz2⟩ := info_parts Try.info_pair
      refine wpIn_rangeFunc_ownG rfl (by decide) (gf := gf) (lb := lb) rfl trivial hen
        (hseq (6 - 1) (by decide) NB W4 hsS (by omega)) KpS.t (KpS.b hw3 hSl) (Below.refl _ _) (fun _ => rfl)
        (fun pre W => (∃ v, Boxed W NB 29 v ∧ W.ownsRow W4.heap.size 47 2 v pre.length (pcells pre) ∧ True) ∧ Below NB W4 W)
        (fun _ _ _ => False)
        (OwnFrom.and (Own.from (holdsRow_own W4.heap.size NB 29 47 2 (fun pre => pre.length) (fun pre => pcells pre) (fun _ _ => True)) _) (ownFrom_below hw3 hw3))
        (fun _ => ownFrom_pure _ (fun _ : List Tbm.Kv => False))
        ⟨⟨_, B14, World.ownsRow_nil _ _ _ _, trivial⟩, Below.refl _ _⟩
        (fun x => { tmps := #[.slice a0 len0 cap0, .slice a1 len1 cap1, .string (bs key), .int .u8 (mst : Int), undef, undef, undef, undef, .bool false, ptr p, .slice A m.length c, .slice A2 fm.length c2, .func (.func gf) #[] lb, .int .i64 (z1.length : Int), .pointer (some ⟨NB, 0, none⟩), txt x.1, txt x.2, .slice a0 len0 cap0, .int .i64 (len0 : Int), .bool (decide (100 < (len0 : Int))), .bool (decide (100 < (len0 : Int))), .slice a1 len1 cap1, .int .i64 (len1 : Int), .bool (decide (40 < (len1 : Int))), .bool (decide (100 < (len0 : Int)) || decide (40 < (len1 : Int))), undef, .tuple #[ptr p, .slice A m.length c], .slice a0 len0 cap0, .tuple #[ptr p, .slice A m.length c], ptr p, .slice A m.length c, .slice A m.length c, .string (bs key), .slice A2 fm.length c2, ptr p, .string (bs key), .func (.func gf) #[] lb, .func (.func gf) #[] lb, .bool false, .bool false, ptr p, txt key, .int .u8 (mst : Int), .int .i64 (mst : Int), .slice A4 T.length c4, .slice A2 fm.length c2, .slice A2 fm.length c2, .int .i64 (fm.length : Int), .int .u8 (mst : Int), .int .i64 (mst : Int), .int .i64 (K : Int), .slice A2 K c2, .bool true, .bool false, .bool false, .int .i64 (z1.length : Int), .slice a1 len1 cap1, .int .i64 (len1 : Int), .bool false, u59, u60, u61, u62, u63, u64, u65, u66, u67, u68, u69, u70, u71, u72, u73, u74, u75, u76, u77, u78, u79, u80, u81, u82, u83, u84, u85, .func (.func gf) #[] lb, txt x.1, txt x.2, undef, undef, undef, undef, undef, undef, undef, undef, undef, undef, undef, undef], defers := [] }) ?assign ?body ?done ?stop
      case assign =>
        intro l x W K hK
        simp only [kvEnc]
        clear hl' hl
        gi_wp2
        exact hK
      case body =>
        rintro l pre x W ⟨⟨v, hv, hrow, _⟩, hB⟩ hlt
        obtain ⟨A1, c1, rfl, _, _, _⟩ := own_rdN hrow
        have hc := hv.cell
        have hone : ∀ u ∈ [txt x.1, txt x.2], u.oneCell' = true := pcells_one [x]
        have hfl' := Hfl.out
        have hn3 : pre.length + 1 ≤ maxLen := by unfold maxLen; omega
        have hn4 : (pre.length + 1) * 32 ≤ 140737488355328 := by omega
        have hbs := hB.size
        have hbs1 : W4.heap.size ≤ (W.alloc (.cells #[txt x.1, txt x.2] 47)).heap.size := by simp; omega
        have hlit := fun (w : World) (t : TypeId) => lit_cells w [txt x.1, txt x.2] t (show 2 ≤ maxLen by unfold maxLen; omega)
        gi_wp2_with (gi_at_builtin; refine wpListIn_append_own _ rfl _ _ 29 rfl W4.heap.size 47 i0 (.agg #[.string ⟨#[]⟩, .string ⟨#[]⟩]) 2 32 Try.underlying29 hi hz0 hz1 hz2 rfl (by decide) _ _ _ rfl (hrow.alloc _) ⟨W.heap.size, 0, none⟩ 1 1 [txt x.1, txt x.2] rfl rfl (hlit _ _) hone hn3 hn4 hbs1 ?_; intro v' w1 hown' hgrow _; obtain ⟨g', cap', rfl⟩ := ownsRow_succ hown'; obtain ⟨hv1, hv2, hr2, hk2, _⟩ := hv.appended (n₀ := 0) (by decide) (own_weak hrow (Nat.zero_le _)) (Nat.zero_le _) (Nat.zero_le _) (own_weak hown' (Nat.zero_le _)) hgrow; have hc1 := hv1.cell; have hf1 := hv1.frozen)
        have hbW : Below NB W w1 := ((Below.refl _ W).alloc (by omega) _).grown hgrow (by simp; omega) (fun k hk => Nat.le_trans hw3 (hrow.lt k hk).1)
        have hbW' : Below NB W (w1.setCell ⟨NB, 0, none⟩ (.slice (some ⟨g', 0, none⟩) (pre.length + 1) cap')) := hbW.setCell (p := ⟨NB, 0, none⟩) (Nat.le_refl _) _
        have hSk : ∀ b, S b → (w1.setCell ⟨NB, 0, none⟩ (.slice (some ⟨g', 0, none⟩) (pre.length + 1) cap')).heap[b]? = W.heap[b]? := fun b hb => hbW'.block b (hSn b hb)
        have hr3 : (w1.setCell ⟨NB, 0, none⟩ (.slice (some ⟨g', 0, none⟩) (pre.length + 1) cap')).ownsRow W4.heap.size 47 2 (.slice (some ⟨g', 0, none⟩) (pre.length + 1) cap') (pre.length + 1) (pcells pre ++ [txt x.1, txt x.2]) := hown'.kept (grownBy_setCell' w1 NB _) (.inr (hv1.not_row (by decide) hown').symm)
        exact ⟨hk2.from _, ⟨hbW', hSk⟩, ⟨_, hv2, by rw [List.length_append, pcells_append]; exact ⟨hr3, trivial⟩⟩, hB.trans hbW'⟩
      case done =>
        rintro D ys W hD hys ⟨⟨v, hv, hrow, _⟩, hB⟩ hK
        have hys' : ys = fm := hys
        clear hys
        subst hys'
        obtain ⟨Ag, cg, rfl, hr1, _, _⟩ := own_rdN hrow
        have hc := hv.cell
        have hfl' := Hfl.out
        have K6 := hid (r_Same Ag A2 ys.length ys.length cg c2 ys ys rfl rfl (by omega) W _ _ hr1 (RW.out.below (ba.trans hB) (Nat.le_refl _)))
        rw [decide_eq_true rfl] at K6
        unfold BoolDraw at K6
        clear hr1 hseq hen
        gi_wp2
        refine ⟨trivial, (callsIn_wide.2 K6.out).mono ?_⟩
        rintro e w6 ⟨rfl, n6, rfl⟩
        have b6 : Below W.heap.size W (W.drewN n6) := below_drewN (Below.refl _ _) n6
        generalize W.drewN n6 = w6 at *
        gi_wp2
        refine ⟨trivial, (callsIn_wide.2 (heads _)).mono ?_⟩
        rintro e w7 ⟨rfl, b7⟩
        have b67 := below2 b6 b7
        have hDW : D < W.heap.size := (Array.getElem?_eq_some_iff.1 hK).1
        have kD := (b67.block D hDW).trans hK
        have hsW := hB.size
        gi_wp2
        refine ⟨by simp, .inl ⟨_, _, rfl, run_takeDeferred kD, ?_⟩⟩
        exact ⟨.bool true, by simp [results, Try.f5, go_sem], rfl, (((hb.trans (ba.mono hbs)).trans (hB.mono hbs)).trans (b67.mono (by omega))).trans (belowK_b (w := W4) (by omega) w7 D _ _ hD kD rfl rfl)⟩
      case stop =>
        rintro D cd pre W hD hpre hF hK
        exact hF.elim

/-! ### THE ROW's STEP: WRITTEN OUT: LEAVE IT -/
set_option maxRecDepth 100000 in
theorem lifted (os : Os) (started : os.Started) (H : Type) (enc : TypeId × Value → H) :
    ReturnsInHanded {} Try.checked os 5 .any (Rows.tableFromSpec.pre6 enc Try.prog Try.f5 Rows.tableFromRow.domain false) (Rows.tableFromSpec.post enc Try.prog Try.f5 false true false false) := by
  refine returnsInHanded_of_change (C := Try.checked) own started (by kernel_rfl) Try.func5
    (ChangeSpec.witness6 (enc := enc) (C := Try.checked) false ⟨#[], #[.slice none 0 0, .slice none 0 0, .string ByteArray.empty, .int .u8 0], []⟩ 8 (by kernel_rfl) (by kernel_rfl) (by kernel_rfl) (by kernel_rfl)) ?_
  intro W base args ds gs before hval0 hW hcnd _
  have hval : ∀ (j : Nat) t v, Try.f5.params[j]? = some t → args[j]? = some v → Value.okWide Try.prog W .any base t v := hval0
  have hW' := hW
  obtain ⟨p, q, hA0, hV, rfl, hfz, hnd⟩ := hW
  have hA : DataW.TrodAll enc Try.prog W 0 (fun _ => true) true Try.f5.params.toList args.toList ds p := hA0
  rw [Try.params5] at hA hval
  obtain ⟨v0, vs0, d0, ds0, p0, q0, hargs, rfl, rfl, h0, r0⟩ := trodAll_cons hA
  obtain ⟨v1, vs1, d1, ds1, p1, q1, rfl, rfl, rfl, h1, r1⟩ := trodAll_cons r0
  obtain ⟨v2, vs2, d2, ds2, p2, q2, rfl, rfl, rfl, h2, r2⟩ := trodAll_cons r1
  obtain ⟨v3, vs3, d3, ds3, p3, q3, rfl, rfl, rfl, h3, r3⟩ := trodAll_cons r2
  obtain ⟨rfl, rfl, rfl⟩ := trodAll_nil r3
  obtain rfl : args = #[v0, v1, v2, v3] := by cases args; simp_all
  obtain ⟨rfl, rfl⟩ := trodVars_none hV
  obtain ⟨a0, len0, cap0, rfl⟩ := okWide_slice Try.underlying22 (hval 0 22 v0 rfl rfl)
  have k0 := h0
  have lt0 : ∀ x ∈ p0, x.block < W.heap.size := by obtain ⟨m, hm⟩ := k0; exact DataW.trod_lt m _ _ _ hm
  obtain ⟨z0, w0⟩ : ∃ zs, IsRowO W a0 len0 cap0 zs := by
    obtain ⟨fuel, hf⟩ := h0
    exact open_ops Try.underlying22 Try.underlying33 (by kernel_rfl) (by kernel_rfl) Try.underlying3 Try.underlying9 Try.underlying9 hf
  obtain ⟨a1, len1, cap1, rfl⟩ := okWide_slice Try.underlying22 (hval 1 22 v1 rfl rfl)
  have k1 := h1
  have lt1 : ∀ x ∈ p1, x.block < W.heap.size := by obtain ⟨m, hm⟩ := k1; exact DataW.trod_lt m _ _ _ hm
  obtain ⟨z1, w1⟩ : ∃ zs, IsRowO W a1 len1 cap1 zs := by
    obtain ⟨fuel, hf⟩ := h1
    exact open_ops Try.underlying22 Try.underlying33 (by kernel_rfl) (by kernel_rfl) Try.underlying3 Try.underlying9 Try.underlying9 hf
  obtain ⟨a2, rfl, rfl, rfl, w2⟩ := open_string Try.underlying9 (hval 2 9 v2 rfl rfl) h2
  obtain ⟨a3, rfl, rfl, rfl, w3⟩ := open_int Try.underlying5 (hval 3 5 v3 rfl rfl) h3
  clear hA0 hval0
  refine (walk a0 len0 cap0 z0 a1 len1 cap1 z1 a2 a3 W w0 w1 w2 w3).mono fun e W' ⟨he, bel⟩ => ?_
  subst he
  exact ⟨_, rfl, _, _, _, [], _, [], hW', trodAll_mk1 (shut_bool Try.underlying4 _), (trodAll_cons_mk (Below.trod laidOut (by kernel_rfl) (of_decide_eq_true (by kernel_rfl)) k0 bel lt0) (trodAll_cons_mk (Below.trod laidOut (by kernel_rfl) (of_decide_eq_true (by kernel_rfl)) k1 bel lt1) (trodAll_cons_mk (shut_string Try.underlying9 w2) (trodAll_cons_mk (shut_int Try.underlying5 w3) trodAll_mk0)))), rfl, bel.frame _, fun h => by cases h⟩

theorem over : Rows.tableFromRow.holds Try.pinned (OpenSpec.ofChange Rows.tableFromSpec) :=
  OpenClaim.holds_of_wide 5 Try.f5 rfl rfl rfl rfl rfl rfl rfl ⟨rfl, rfl, rfl, rfl, rfl⟩ rfl rfl rfl rfl rfl (by kernel_rfl) Try.func5 (by kernel_rfl)
    (of_decide_eq_true (by kernel_rfl)) (by unfold Func.isWrapper; first | (rw [if_pos (by decide +kernel)]; kernel_rfl) | (rw [if_neg (by decide +kernel)]; exact ⟨rfl, rfl⟩))
    (fun os started H enc _ => lifted os started H enc)

/-- ████ THE STATEMENT ████ -/
theorem proved : Rows.TableFromSaid := over
#print axioms proved
end Go.Proofs.Ytbkabjnklipmjaa.tableFrom
