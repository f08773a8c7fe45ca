/- The program's All: what its closure hands on, word by word; and List, by ranging over it (layer 5). -/
import Derived.Test.YteejccppdmjlaaaDoorBitT
import Derived.Test.YteejccppdmjlaaaDoorSetK
import Derived.Test.YteejccppdmjlaaaDoorSetH
namespace Go.Proofs.YteejccppdmjlaaaDoor
open Go.RowKit Go.Shelf
attribute [local go_sem] Oper.semAt_some

/-- what a round keeps: what lay ahead, and these blocks -/
def KpS (n₀ : Nat) (S : Nat → Prop) (W W' : World) : Prop := Below n₀ W W' ∧ ∀ b, S b → W'.heap[b]? = W.heap[b]?
theorem KpS.t {n₀ : Nat} {S : Nat → Prop} {A B C : World} (h : KpS n₀ S A B) (k : KpS n₀ S B C) : KpS n₀ S A C := ⟨h.1.trans k.1, fun b hb => (k.2 b hb).trans (h.2 b hb)⟩
theorem KpS.b {n₀ : Nat} {S : Nat → Prop} {w : World} (hn : n₀ ≤ w.heap.size) (hS : ∀ b, S b → b < w.heap.size) (W : World) (l : Nat) (o o' : Obj) (hl : w.heap.size ≤ l) (h : W.heap[l]? = some o) (h1 : o.isCells = false) (h2 : o.isWalk = false) : KpS n₀ S W (W.putObj l o') :=
  ⟨belowK_b hn W l o o' hl h h1 h2, fun b hb => World.putObj_heap_other (by have := hS b hb; omega)⟩
theorem KpS.refl (n₀ : Nat) (S : Nat → Prop) (W : World) : KpS n₀ S W W := ⟨Below.refl _ _, fun _ _ => rfl⟩
theorem KpS.lt {n₀ : Nat} {W W' : World} (h : Below n₀ W W') : KpS n₀ (fun b => b < n₀) W W' := ⟨h, fun b hb => h.block b hb⟩
theorem us_kept {w w' : World} {B : Nat} {A : Option Addr} {l : List Nat} (h : Us w B A l) (hk : ∀ ad, A = some ad → w'.heap[ad.block]? = w.heap[ad.block]?) : Us w' B A l := fun hn => by
  obtain ⟨ad, e, hb, hc⟩ := h hn
  exact ⟨ad, e, hb, fun k v hv => (World.cell?_of_block (a := ad.add k) (by rw [add_block]; exact hk ad e)).trans (hc k v hv)⟩

theorem pre_of {s : List Nat} {k : Nat} (hk : k < s.length) {dn r : List Nat} (h : bitsOf (s.getD k 0) = dn ++ r) : Bst.upto s (64 * k) ++ dn.map (64 * k + ·) <+: Bst.lst s := by
  obtain ⟨q, hq⟩ := Bst.lst_upto s (64 * (k + 1)) (by omega)
  refine ⟨r.map (64 * k + ·) ++ q, ?_⟩
  rw [hq, upto_next, h, List.map_append]
  simp only [List.append_assoc]
theorem lst_len (s : List Nat) : (Bst.lst s).length ≤ 64 * s.length := Bst.upto_len s (64 * s.length)

set_option maxRecDepth 100000 in
set_option maxHeartbeats 2000000 in
theorem all1_in (m : Nat) (hm1 : 1 ≤ m) (l Bx n₀ : Nat) (A : Option Addr) (n c : Nat) (s : List Nat) (hn : s.length = n) (hm : n ≤ 10000) (hok : Bst.Ok s) (S : Nat → Prop) (hSA : ∀ ad, A = some ad → S ad.block) (hG : 0 < n₀) (J Jx : List Nat → World → Prop)
    (hY : ∀ (pre : List Nat) (x : Nat) (W : World), J pre W → pre.length < 64 * n → YieldAt Fence.wide (m - 1) Tryd.prog l #[.int .i64 (x : Int)] W fun e W' =>
      (e = .returned (.bool true) ∧ J (pre ++ [x]) W' ∧ KpS n₀ S W W') ∨ (e = .returned (.bool false) ∧ Jx (pre ++ [x]) W'))
    (W : World) (hBs : W.cell? ⟨Bx, 0, none⟩ = some (.slice A n c)) (N : Nat) (hI : Us W N A s) (hT : Tab W) (h0 : J [] W) :
    CallsIn Fence.wide m Tryd.prog 23 #[.func (.yield l) #[] #[], .pointer (some ⟨Bx, 0, none⟩)] W fun e W' => (∃ v, e = .returned v) ∧
      ((∃ ys, ys = Bst.lst s ∧ J ys W') ∨ (∃ pre, pre <+: Bst.lst s ∧ Jx pre W')) := by
  subst hn
  have HI := hid hI
  have HT := hid hT
  have Hok := hid hok
  have Hdone := hid (Bst.upto_more s (64 * s.length) (Nat.le_refl _))
  clear hI hT hok
  refine callsIn_of_wp Tryd.func23 rfl trivial ?_ rfl
  simp only [Tryd.ntmps23, List.size_toArray, List.length_cons, List.length_nil, Nat.reduceAdd, Nat.reduceSub, Array.replicate_succ, Array.replicate_zero, List.push_toArray, List.append_toArray, List.nil_append, List.cons_append]
  gi_wp2
  gi_loopw [7] (fun iv wr => ∃ k : Nat, k ≤ s.length ∧ iv = .int .i64 k ∧ J (Bst.upto s (64 * k)) wr ∧ KpS n₀ S W wr) (fun iv _ => s.length - (intOf iv).toNat)
  case atStart => exact ⟨0, Nat.zero_le _, rfl, h0, KpS.refl _ _ _⟩
  case round =>
    obtain ⟨k, hk, rfl, hJ, hkp⟩ := hrel
    by_cases hlt : k < s.length
    · obtain ⟨ad, x, rfl, _, Hx, hcx⟩ := Us.get (us_kept HI.out (fun ad e => hkp.2 _ (hSA ad e))) hlt
      have hxl := Hok.out.getD k
      rw [Hx.out] at hxl
      have Hxl := hid hxl
      have Hnext := hid (upto_next s k)
      have Hpre := hid (fun dn r => pre_of (s := s) (k := k) hlt (dn := dn) (r := r))
      rw [Hx.out] at Hnext Hpre
      have i1 : (0 : Int) ≤ (k : Int) := by omega
      have i2 : (k : Int) < (s.length : Int) := by omega
      clear hxl
      gi_wp2
      gi_loopw [4] (fun xv wr2 => ∃ (y : Nat) (dn : List Nat), xv = .int .u64 y ∧ Hid (y < 18446744073709551616) ∧ Hid (bitsOf x = dn ++ bitsOf y) ∧ J (Bst.upto s (64 * k) ++ dn.map (64 * k + ·)) wr2 ∧ KpS n₀ S W wr2) (fun xv _ => (intOf xv).toNat)
      case atStart => exact ⟨x, [], rfl, Hxl, hid rfl, by rw [List.map_nil, List.append_nil]; exact hJ, hkp⟩
      case round =>
        clear hJ hkp hcx
        obtain ⟨y, dn, rfl, hyl, hbs, hJ, hkp⟩ := hrel
        by_cases hy0 : y = 0
        · subst hy0
          rw [bitsOf_zero, List.append_nil] at hbs
          rw [← hbs.out, ← Hnext.out] at hJ
          gi_wp2
          exact ⟨⟨k + 1, by omega, by go_num, hJ, hkp⟩, by simp [intOf]; omega⟩
        · obtain ⟨hstep, hless, hc64⟩ := bitsOf_step y hy0 hyl.out
          have Htz := hid (p_tz y hyl.out hy0)
          have Hbs := hid (show bitsOf x = (dn ++ [Lib.ctz 64 y]) ++ bitsOf (y &&& (y - 1)) by rw [hbs.out, hstep, List.append_assoc]; rfl)
          have Hpp := hid (Hpre.out _ _ Hbs.out)
          have hlen := Hpp.out.length_le
          have hll := lst_len s
          rw [List.length_append, List.length_map, List.length_append] at hlen
          have hand : bits .and .u64 (y : Int) (IntKind.u64.wrap ((y : Int) - 1)) = ((y &&& (y - 1) : Nat) : Int) := by
            rw [show IntKind.u64.wrap ((y : Int) - 1) = ((y - 1 : Nat) : Int) by rw [IntKind.wrap_u64]; have := hyl.out; omega]
            exact bits_and_u64_nat y (y - 1) hyl.out (by have := hyl.out; omega)
          have Hzl := hid (Nat.lt_trans hless hyl.out)
          generalize Lib.ctz 64 y = cc at *
          generalize y &&& (y - 1) = y2 at *
          obtain ⟨z, hz⟩ : ∃ z, 64 * k + cc = z := ⟨_, rfl⟩
          have hzi : (k : Int) * 64 + (cc : Int) = (z : Int) := by omega
          have hne : ((y : Int) != 0) = true := by rw [bne_iff_ne]; omega
          have hpe : Bst.upto s (64 * k) ++ (dn ++ [cc]).map (64 * k + ·) = (Bst.upto s (64 * k) ++ dn.map (64 * k + ·)) ++ [z] := by rw [List.map_append, ← List.append_assoc, ← hz]; rfl
          rw [hpe] at Hpp
          obtain ⟨fn, tmps, assign, body, hy, hR⟩ := hY (Bst.upto s (64 * k) ++ dn.map (64 * k + ·)) z wr hJ (by rw [List.length_append, List.length_map]; simp only [List.length_cons, List.length_nil] at hlen; omega)
          have hTw : Tab wr := HT.out.below hkp.1 hG
          have Hc := hid (Htz.out wr hTw)
          clear hlen hll hstep hyl hpe hTw
          gi_wp2
          refine ⟨trivial, (callsIn_wide.2 Hc.out).mono ?_⟩
          rintro e w' ⟨rfl, rfl⟩
          gi_wp2
          refine hR.mono ?_
          rintro e W3 (⟨rfl, hJ3, hk3⟩ | ⟨rfl, hJx3⟩)
          · gi_wp2
            exact ⟨⟨y2, dn ++ [cc], rfl, Hzl, Hbs, by rw [List.map_append, ← List.append_assoc]; show J (_ ++ [64 * k + cc]) W3; rw [hz]; exact hJ3, hkp.t hk3⟩, by simp only [intOf]; omega⟩
          · gi_wp2
            refine bodyPost_ret (results_none rfl _ _ _) rfl ?_
            exact ⟨⟨_, rfl⟩, .inr ⟨_, Hpp.out, hJx3⟩⟩
    · obtain rfl : k = s.length := by omega
      rw [Hdone.out] at hJ
      gi_wp2
      go_end0
      exact ⟨⟨_, rfl⟩, .inl ⟨_, rfl, hJ⟩⟩

/-- hands out All's closure, over a new box that holds a new row -/
def AllRet (s : List Nat) (w : World) (e : Ending) (w' : World) : Prop := ∃ A c Bx, e = .returned (.func (.func 23) #[] #[.pointer (some ⟨Bx, 0, none⟩)]) ∧ Boxed w' Bx 22 (.slice A s.length c) ∧ w.heap.size ≤ Bx ∧ Bx < w'.heap.size ∧ w'.ownsRow w.heap.size 35 1 (.slice A s.length c) s.length (s.map ucell) ∧ Below w.heap.size w w'

theorem p_All (A : Option Addr) (n c : Nat) (s : List Nat) (hn : s.length = n) (hm : n ≤ 10000) (B : Nat) (w : World) (hB : B ≤ w.heap.size) (h : Us w B A s) :
    Calls Tryd.prog 8 #[.slice A n c] w (AllRet s w) := by
  subst hn
  have HC := hid (p_Clone A s.length c s rfl (by omega) B w hB h)
  unfold WordsRet at HC
  clear h
  go_enter Tryd.func8, Tryd.ntmps8
  go_wp2_with fail
  refine (HC.out).mono ?_
  rintro e w1 ⟨A1, c1, rfl, hown1, hc1, hb1⟩
  have hbx := Boxed.new w1 22 (.slice A1 s.length c1)
  have hb2 := hb1.alloc hb1.size (.cells #[.slice A1 s.length c1] 22)
  have hown2 := hown1.alloc (.cells #[.slice A1 s.length c1] 22)
  go_wp2_with fail
  go_ret
  exact ⟨A1, c1, w1.heap.size, rfl, hbx, hb1.size, by simp, hown2, hb2⟩

/-- All's box and its row -/
def SetAt (Bx : Nat) (A : Option Addr) (b : Nat) : Prop := b = Bx ∨ ∃ ad, A = some ad ∧ b = ad.block
/-- what All hands back goes over the numbers, rising -/
theorem all_stops (m : Nat) (hm1 : 1 ≤ m) (Bx n₀ : Nat) (A : Option Addr) (n c : Nat) (s : List Nat) (hn : s.length = n) (hm : n ≤ 10000) (hok : Bst.Ok s) (S : Nat → Prop) (hSA : ∀ ad, A = some ad → S ad.block) (hG : 0 < n₀) (w : World)
    (hBx : Bx < w.heap.size) (hc : w.cell? ⟨Bx, 0, none⟩ = some (.slice A n c)) (N : Nat) (hN : N ≤ w.heap.size) (hI : Us w N A s) (hT : Tab w) :
    SeqStopsK Fence.wide m Tryd.prog 23 #[.pointer (some ⟨Bx, 0, none⟩)] (fun x : Nat => #[Value.int .i64 (x : Int)]) (KpS n₀ S) (fun ys => ys = Bst.lst s) (fun pre => pre <+: Bst.lst s) (64 * n) w := fun l J Jx W hW _ _ hY h0 =>
  all1_in m hm1 l Bx n₀ A n c s hn hm hok S hSA hG J Jx hY W ((hW.cell (p := ⟨Bx, 0, none⟩) hBx).trans hc) N (hI.below hW hN) (hT.next hW) h0

/-! ### List -/
theorem rows_apart {W : World} {base base' : Nat} {e e' : TypeId} {v v' : Value} {k k' : Nat} {xs ys : List Value} (h : W.ownsRow base e 1 v k xs) (h' : W.ownsRow base' e' 1 v' k' ys) (hne : e ≠ e') : v'.ownBlock = none ∨ v'.ownBlock ≠ v.ownBlock := by
  rcases h'.2 with ⟨rfl, _⟩ | ⟨g', cap', cur', rfl, _, hg', _⟩
  · exact .inl rfl
  · refine .inr ?_
    rcases h.2 with ⟨rfl, _⟩ | ⟨g, cap, cur, rfl, _, hg, _⟩
    · simp [Value.ownBlock]
    · intro e1
      obtain rfl : g' = g := by simpa [Value.ownBlock] using e1
      rw [hg'] at hg
      injection hg with hg
      injection hg with _ hg
      exact hne hg.symm
theorem row_own {β : Type} (n₀ : Nat) (e : TypeId) (v : Value) (n : Nat) (xs : List Value) : Own (fun (_ : β) W => W.ownsRow n₀ e 1 v n xs) := by
  rintro s X Y row hr hg hrow
  refine hr.kept hg ?_
  rcases hr.2 with ⟨rfl, _⟩ | ⟨g, cap, cur, rfl, _, hgb, _⟩
  · exact .inl rfl
  · refine .inr fun e' => ?_
    obtain ⟨o, ho, hc⟩ := hrow g (by simpa [Value.ownBlock] using e'.symm)
    rw [hgb] at ho; cases ho; cases hc
theorem own_at {W : World} {base : Nat} {e : TypeId} {A : Option Addr} {n c : Nat} {xs : List Value} (h : W.ownsRow base e 1 (.slice A n c) n xs) (ad : Addr) (hA : A = some ad) : (Value.slice A n c).ownBlock = some ad.block ∧ ad.block < W.heap.size ∧ base ≤ ad.block := by
  rcases h.2 with ⟨hv, _⟩ | ⟨g, cap, cur, hv, hb, hg, _⟩
  · injection hv with e1
    rw [hA] at e1; cases e1
  · injection hv with e1 _ e3
    rw [hA] at e1
    injection e1 with e1
    subst e1
    subst hA
    exact ⟨rfl, (Array.getElem?_eq_some_iff.1 hg).1, hb⟩
/-- what stays of a row behind an append onto another one, and the store of that into its box -/
theorem list_keep {W w1 : World} {n₀ nb LB : Nat} {t e e2 : TypeId} {v u lv : Value} {k n c : Nat} {xs ys : List Value} {A : Option Addr} {tmp : Obj} (hv : Boxed W LB t lv) (hrow : W.ownsRow n₀ e 1 v k xs) (hgrow : (W.alloc tmp).grownBy w1 v.ownBlock)
    (hu : W.ownsRow nb e2 1 (.slice A n c) n ys) (he : e ≠ e2) (ht : t ≠ e2) : (w1.setCell ⟨LB, 0, none⟩ u).ownsRow nb e2 1 (.slice A n c) n ys ∧ ∀ ad, A = some ad → (w1.setCell ⟨LB, 0, none⟩ u).heap[ad.block]? = W.heap[ad.block]? := by
  have h1 := rows_apart hrow hu he
  have h2 := hv.not_row ht hu
  refine ⟨((hu.alloc tmp).kept hgrow h1).kept (grownBy_setCell' w1 LB u) (.inr h2.symm), fun ad hA => ?_⟩
  obtain ⟨hb, hlt, _⟩ := own_at hu ad hA
  have h1' : some ad.block ≠ v.ownBlock := by
    rcases h1 with h1 | h1
    · rw [hb] at h1; cases h1
    · rw [← hb]; exact h1
  have h2' : ad.block ≠ LB := fun e => h2 (by rw [hb, e])
  rw [(grownBy_setCell' w1 LB u).block ad.block (Nat.lt_of_lt_of_le (by rw [World.size_alloc]; omega) hgrow.size) (fun e => h2' (by cases e; rfl)), hgrow.block ad.block (by rw [World.size_alloc]; omega) h1']
  exact Below.heap_alloc W tmp _ hlt

set_option maxRecDepth 100000 in
set_option maxHeartbeats 2000000 in
theorem p_List (A : Option Addr) (n c : Nat) (s : List Nat) (hn : s.length = n) (hm : n ≤ 10000) (hok : Bst.Ok s) (w : World) (hT : Tab w) (h : Us w w.heap.size A s) :
    Calls Tryd.prog 11 #[.slice A n c] w (IlRet (Bst.lst s) w) := by
  subst hn
  have HC := hid (p_Count A s.length c s rfl hm hok _ w (Nat.le_refl _) h)
  unfold CntRet at HC
  have HA := hid (fun (w' : World) (hb : Below w.heap.size w w') => p_All A s.length c s rfl hm _ w' (Nat.le_refl _) ((h.below hb (Nat.le_refl _)).more hb.size))
  unfold AllRet at HA
  have hll := lst_len s
  obtain ⟨M, hM⟩ : ∃ M, (Bst.lst s).length = M := ⟨_, rfl⟩
  rw [hM] at HC hll
  obtain ⟨i0, hi, hz0, hz1, hz2⟩ := info_parts Tryd.info_int
  have hb2 : i0.bytes * M ≤ 281474976710656 := by rw [hz2]; omega
  have hb3 : M ≤ maxLen := by unfold maxLen; omega
  have HT := hid hT
  clear h hT
  refine (callsIn_wide (n := 5)).1 ?_
  refine callsIn_of_wp_marks Tryd.func11 rfl trivial ?_ rfl
  simp only [Tryd.ntmps11, List.size_toArray, List.length_cons, List.length_nil, Nat.reduceAdd, Nat.reduceSub, Array.replicate_succ, Array.replicate_zero, List.push_toArray, List.append_toArray, List.nil_append, List.cons_append]
  gi_wp2
  refine ⟨trivial, (callsIn_wide.2 HC.out).mono ?_⟩
  rintro e w0 ⟨rfl, b0⟩
  gi_wp2_with (gi_at_make; refine wpListIn_make_own _ rfl _ _ 25 rfl w.heap.size 3 i0 (.int .i64 0) 1 Tryd.underlying25 hi hz0 hz1 .i64 .i64 _ M rfl rfl rfl hb2 hb3 b0.size ?_; intro w1 hown1 hgrow1)
  have hb1 : Below w.heap.size w w1 := b0.grown hgrow1 b0.size (fun k hk => by cases hk)
  have bO := Boxed.new w1 25 (.slice (some ⟨w0.heap.size, 0, none⟩) 0 M)
  have hown2 := hown1.alloc (.cells #[.slice (some ⟨w0.heap.size, 0, none⟩) 0 M] 25)
  have hb2' := hb1.alloc hb1.size (.cells #[.slice (some ⟨w0.heap.size, 0, none⟩) 0 M] 25)
  have hLB : w.heap.size ≤ w1.heap.size := hb1.size
  have hs2 : (w1.alloc (.cells #[.slice (some ⟨w0.heap.size, 0, none⟩) 0 M] 25)).heap.size = w1.heap.size + 1 := by simp
  obtain ⟨LB, hLBe⟩ : ∃ LB, w1.heap.size = LB := ⟨_, rfl⟩
  rw [hLBe] at bO hLB hs2
  obtain ⟨w2, hw2⟩ : ∃ w2, w1.alloc (.cells #[.slice (some ⟨w0.heap.size, 0, none⟩) 0 M] 25) = w2 := ⟨_, rfl⟩
  rw [hw2] at bO hown2 hb2' hs2
  rw [hw2, hLBe]
  clear hw2 hLBe hown1 hgrow1 hb1
  refine ⟨trivial, (callsIn_wide.2 (HA.out w2 hb2')).mono ?_⟩
  rintro e w3 ⟨A3, c3, Bx, rfl, hbx, hxl, hxu, hu, hb3'⟩
  have bO3 := bx_below bO hb3' (by omega)
  have hown3 := own_below hown2 hb3'
  have hB3 := below2 hb2' hb3'
  have hT3 := HT.out.next hB3
  have hG := HT.out.lt
  have hs3 := hb3'.size
  have hne : Bx ≠ LB := by omega
  have hI3 : Us w3 w3.heap.size A3 s := Rd.of_own hu
  have hSlt : ∀ b, SetAt Bx A3 b → b < w3.heap.size := fun b hb => by
    rcases hb with rfl | ⟨ad, hA, rfl⟩
    · exact hxu
    · exact (own_at hu ad hA).2.1
  gi_wp2
  refine wpIn_rangeFunc_ownG rfl (by decide) (gf := 23) (lb := #[.pointer (some ⟨Bx, 0, none⟩)]) rfl trivial (enters_of Tryd.func23 (by kernel_rfl) rfl)
    (all_stops (5 - 1) (by decide) Bx w.heap.size A3 s.length c3 s rfl hm hok (SetAt Bx A3) (fun ad e => .inr ⟨ad, e, rfl⟩) hG w3 hxu hbx.cell w3.heap.size (Nat.le_refl _) hI3 hT3) KpS.t (KpS.b (by have := hB3.size; omega) hSlt) (Below.refl _ _) (fun _ => rfl)
    (fun pre W => (∃ v, Boxed W LB 25 v ∧ W.ownsRow w.heap.size 3 1 v pre.length ((il pre).map (Value.int .i64)) ∧ True) ∧ Boxed W Bx 22 (.slice A3 s.length c3) ∧ W.ownsRow w2.heap.size 35 1 (.slice A3 s.length c3) s.length (s.map ucell) ∧ Below w.heap.size w W)
    (fun _ _ _ => False)
    (OwnFrom.and (Own.from (holdsRow_own w.heap.size LB 25 3 1 (fun pre => pre.length) (fun pre => (il pre).map (Value.int .i64)) (fun _ _ => True)) _) (OwnFrom.and (Own.from (boxed_own _ _ (fun _ => .slice A3 s.length c3)) _) (OwnFrom.and (Own.from (row_own _ _ _ _ _) _) (ownFrom_below (Nat.le_refl _) hB3.size))))
    (fun _ _ _ _ _ hs _ _ => hs)
    ⟨⟨_, bO3, hown3, trivial⟩, hbx, hu, hB3⟩
    (fun x => { tmps := #[.slice A s.length c, undef, .slice none 0 0, .pointer (some ⟨LB, 0, none⟩), .int .i64 (x : Int), .slice A s.length c, .int .i64 (M : Int), .slice (some ⟨w0.heap.size, 0, none⟩) 0 M, .slice A s.length c, .func (.func 23) #[] #[.pointer (some ⟨Bx, 0, none⟩)], .int .i64 (x : Int), undef, undef, undef, undef, undef], defers := [] }) ?assign ?body ?done ?stop
  case assign =>
    intro l x W K hK
    gi_wp2
    exact hK
  case body =>
    rintro l pre x W ⟨⟨v, hv, hrow, _⟩, hbx, hu, hB⟩ hlt
    have hc := hv.cell
    have hbs := hB.size
    gi_wp2_with (gi_at_builtin; refine wpListIn_append_own _ rfl _ _ 25 rfl w.heap.size 3 i0 (.int .i64 0) 1 8 Tryd.underlying25 hi hz0 hz1 hz2 rfl (by decide) _ _ _ rfl (hrow.alloc _) ⟨W.heap.size, 0, none⟩ 1 1 [.int .i64 (x : Int)] rfl rfl (cell_one_new _ _ _) (by simp [Value.oneCell']) (by unfold maxLen; omega) (by omega) (by simp; omega) ?_; intro v' w1 hown' hgrow _; obtain ⟨g', cap', rfl⟩ := ownsRow_succ hown'; obtain ⟨hv1, hv2, hr2, hk2, hb2⟩ := hv.appended (by decide) hrow hB.size hLB hown' hgrow; have hc1 := hv1.cell; have hf1 := hv1.frozen; have hbx1 := ((hbx.alloc _).kept hgrow (hbx.not_row (by decide) hrow)); have hkp := list_keep (u := .slice (some ⟨g', 0, none⟩) (pre.length + 1) cap') hv hrow hgrow hu (by decide) (by decide))
    have hbx2 := hbx1.kept (grownBy_setCell' w1 LB (.slice (some ⟨g', 0, none⟩) (pre.length + 1) cap')) (by simp; exact hne)
    refine ⟨hk2.from _, ⟨hb2, fun b hb => ?_⟩, ⟨_, hv2, by rw [List.length_append, il_cells, List.map_append, ← il_cells]; exact hr2, trivial⟩, hbx2, hkp.1, hB.trans hb2⟩
    rcases hb with rfl | ⟨ad, hA, rfl⟩
    · exact Eq.trans hbx2 (Eq.symm hbx)
    · exact hkp.2 ad hA
  case done =>
    rintro D ys W hD rfl ⟨⟨v, hv, hrow, _⟩, hbx, _, hB⟩ hK
    have hc := hv.cell
    gi_wp2
    refine ⟨by simp, .inl ⟨_, _, rfl, run_takeDeferred hK, ?_⟩⟩
    have hown := ownsRow_putObj hrow (.deferred none) hK rfl
    obtain ⟨A1, c1, rfl, hr, hc1⟩ := own_rd hown
    exact ⟨_, results_tmp rfl _ _ _, A1, c1, rfl, hr, hc1, hB.trans (belowK_b (w := w) (Nat.le_refl _) W D _ _ (by have := hB3.size; omega) hK rfl rfl)⟩
  case stop =>
    rintro D c pre W _ _ h _
    exact h.elim
end Go.Proofs.YteejccppdmjlaaaDoor
