/- Contracts of the program's own functions of layer 14 (course): Classes, over the library's Sort and Compact of numbers. -/
import Derived.Test.YtgkplcipplpobaaShelf
import Derived.Test.YtgkplcipplpobaaCrtJ
import Derived.Test.YtgkplcipplpobaaCrsG
import Derived.Sort.OwnSortedInts
namespace Go.Proofs.Ytgkplcipplpobaa
open Go.RowKit Go.Sort
open Whn (Gr Wh)

theorem compact_mem (l : List Int) (z : Int) : z ∈ Lib.compact l ↔ z ∈ l := by
  have hg : ∀ i, i < l.length → l.toArray[i]! = l[i]! := fun i hi => by
    rw [getElem!_pos _ i (by simpa using hi), getElem!_pos _ i hi]; simp
  unfold Lib.compact Lib.compactUpTo
  rw [List.mem_map]
  constructor
  · rintro ⟨j, hj, rfl⟩
    have hjl := List.mem_range.1 (List.mem_filter.1 hj).1
    rw [hg j hjl, getElem!_pos _ j hjl]
    exact List.getElem_mem hjl
  · intro hz
    have key : ∀ i, i < l.length → ∃ a, a ∈ (List.range l.length).filter (Lib.keeps l.toArray) ∧ l.toArray[a]! = l.toArray[i]! := by
      intro i
      induction i with
      | zero =>
        intro hi
        exact ⟨0, List.mem_filter.2 ⟨List.mem_range.2 hi, by simp [Lib.keeps]⟩, rfl⟩
      | succ i ih =>
        intro hi
        by_cases hk : Lib.keeps l.toArray (i + 1) = true
        · exact ⟨i + 1, List.mem_filter.2 ⟨List.mem_range.2 hi, hk⟩, rfl⟩
        · obtain ⟨a, ha, e⟩ := ih (by omega)
          refine ⟨a, ha, e.trans ?_⟩
          unfold Lib.keeps at hk
          rw [decide_eq_true_iff] at hk
          simp only [Nat.add_sub_cancel, not_or, Decidable.not_not] at hk
          exact hk.2.symm
    obtain ⟨i, hi, e⟩ := List.mem_iff_getElem.1 hz
    obtain ⟨a, ha, e2⟩ := key i hi
    exact ⟨a, ha, by rw [e2, hg i hi, getElem!_pos _ i hi]; exact e⟩
theorem compact_rising {l : List Int} (h : l.Pairwise (· ≤ ·)) : (Lib.compact l).Pairwise (· < ·) := by
  have hg : ∀ i, i < l.length → l.toArray[i]! = l[i]! := fun i hi => by
    rw [getElem!_pos _ i (by simpa using hi), getElem!_pos _ i hi]; simp
  unfold Lib.compact Lib.compactUpTo
  rw [List.pairwise_map]
  refine List.Pairwise.imp_of_mem ?_ ((List.pairwise_lt_range (n := l.length)).filter _)
  intro a b ha hb hab
  have hal := List.mem_range.1 (List.mem_filter.1 ha).1
  obtain ⟨hbl, hkb⟩ := List.mem_filter.1 hb
  have hbl := List.mem_range.1 hbl
  unfold Lib.keeps at hkb
  rw [decide_eq_true_iff] at hkb
  have hne := hkb.resolve_left (by omega)
  have hp := List.pairwise_iff_getElem.1 h
  have h1 : l.toArray[a]! ≤ l.toArray[b - 1]! := by
    rw [hg a hal, hg (b - 1) (by omega), getElem!_pos _ a hal, getElem!_pos _ (b - 1) (by omega)]
    rcases Nat.lt_or_ge a (b - 1) with h | h
    · exact hp a (b - 1) hal (by omega) h
    · have : a = b - 1 := by omega
      subst this
      exact Int.le_refl _
  have h2 : l.toArray[b - 1]! ≤ l.toArray[b]! := by
    rw [hg b hbl, hg (b - 1) (by omega), getElem!_pos _ b hbl, getElem!_pos _ (b - 1) (by omega)]
    exact hp (b - 1) b (by omega) hbl (by omega)
  omega
theorem compact_len (l : List Int) : (Lib.compact l).length ≤ l.length := by
  unfold Lib.compact Lib.compactUpTo
  rw [List.length_map]
  exact Nat.le_trans (List.length_filter_le _ _) (by rw [List.length_range]; exact Nat.le_refl _)
theorem own_cut {w : World} {base : Nat} {e : TypeId} {g cap n k : Nat} {xs : List Value} (h : w.ownsRow base e 1 (.slice (some ⟨g, 0, none⟩) n cap) n xs) (hk : k ≤ n) : w.ownsRow base e 1 (.slice (some ⟨g, 0, none⟩) k cap) k (xs.take k) := by
  rcases h with ⟨h1, ⟨hv, _⟩ | ⟨g', cap', cur, hv, hb, hg, hn, hm, hs, ht⟩⟩
  · cases hv
  · injection hv with e1 _ e3
    injection e1 with e1
    injection e1 with e1
    subst e1; subst e3
    refine ⟨by rw [List.length_take, h1]; omega, .inr ⟨g, cap, cur, rfl, hb, hg, by omega, hm, hs, ?_⟩⟩
    rw [← ht, List.take_take]
    congr 1
    omega
/-- a row of the call's own that is sorted -/
theorem p_SortI (base : Nat) (v : Value) (l : List Int) (w : World) (h : w.ownsRow base 3 1 v l.length (l.map (Value.int .i64))) (hm : l.length ≤ 1000000) (hb : base ≤ w.heap.size) :
    Calls Try.prog 35 #[v] w fun e w' => e = .returned (.tuple #[]) ∧ ∃ ts : List Int, ts.length = l.length ∧ ts.Pairwise (· ≤ ·) ∧ (∀ z, z ∈ ts ↔ z ∈ l) ∧ w'.ownsRow base 3 1 v ts.length (ts.map (Value.int .i64)) ∧ Below base w w' := by
  rcases h.2 with ⟨rfl, h0⟩ | ⟨g, cap, cur, rfl, hbg, hg, hn, hcm, hs, ht⟩
  · have hl : l = [] := List.eq_nil_of_length_eq_zero h0
    subst hl
    have hcon := Any.slices_Sort_int_none Try.lays189 none 0 w
    change Calls Try.prog 35 _ _ _ at hcon
    refine hcon.mono ?_
    rintro e w' ⟨rfl, rfl⟩
    exact ⟨rfl, [], rfl, List.Pairwise.nil, fun z => Iff.rfl, h, Below.refl _ _⟩
  · have hlt : g < w.heap.size := (Array.getElem?_eq_some_iff.1 hg).1
    rw [Nat.mul_one] at ht
    have hcon := Any.slices_Sort_int Try.lays189 g 0 cap l w (holds_of_blockI hg ht) hlt (by omega)
    change Calls Try.prog 35 _ _ _ at hcon
    refine hcon.mono ?_
    rintro e w' ⟨rfl, n, os, rfl⟩
    have hlen : (l.mergeSort fun x y => decide (x ≤ y)).length = l.length := List.length_mergeSort l
    refine ⟨rfl, _, hlen, ?_, fun z => (List.mergeSort_perm l _).mem_iff, ?_, ?_⟩
    · have := List.pairwise_mergeSort (le := fun x y : Int => decide (x ≤ y)) (fun a b c h1 h2 => by
        rw [decide_eq_true_iff] at *; omega) (fun a b => by rw [Bool.or_eq_true, decide_eq_true_iff, decide_eq_true_iff]; omega) l
      exact this.imp fun h => of_decide_eq_true h
    · have := ownsRow_sortedI (n := n) (os := os) (ts := l.mergeSort fun x y => decide (x ≤ y)) hlen hbg hg hn hcm hs
      rw [hlen]
      exact this
    · exact (Below.refl base w).grown (grownBy_sortedI _) hb (fun k hk => by injection hk with hk; rw [← hk]; exact hbg)
/-- .. and of which each number stays once -/
theorem p_CompI (base : Nat) (v : Value) (l : List Int) (w : World) (h : w.ownsRow base 3 1 v l.length (l.map (Value.int .i64))) (hm : l.length ≤ 1000000) (hb : base ≤ w.heap.size) :
    Calls Try.prog 36 #[v] w fun e w' => ∃ v', e = .returned v' ∧ w'.ownsRow base 3 1 v' (Lib.compact l).length ((Lib.compact l).map (Value.int .i64)) ∧ Below base w w' := by
  rcases h.2 with ⟨rfl, h0⟩ | ⟨g, cap, cur, rfl, hbg, hg, hn, hcm, hs, ht⟩
  · have hl : l = [] := List.eq_nil_of_length_eq_zero h0
    subst hl
    have hcon := Any.slices_Compact_int_empty Try.laysNm220 none 0 w
    change Calls Try.prog 36 _ _ _ at hcon
    refine hcon.mono ?_
    rintro e w' ⟨rfl, rfl⟩
    exact ⟨_, rfl, h, Below.refl _ _⟩
  · rw [Nat.mul_one] at ht
    have hcon := Any.slices_Compact_int Try.laysNm220 g 0 cap l w (holds_of_blockI hg ht) (by omega) hn
    change Calls Try.prog 36 _ _ _ at hcon
    refine hcon.mono ?_
    rintro e w' ⟨rfl, q, rfl⟩
    have hcl := compact_len l
    have hlen : (Lib.compact l ++ List.replicate (l.length - (Lib.compact l).length) 0).length = l.length := by rw [List.length_append, List.length_replicate]; omega
    refine ⟨_, rfl, ?_, ?_⟩
    · have h1 := ownsRow_sortedI (n := q) (os := #[]) hlen hbg hg hn hcm hs
      rw [grow_empty] at h1
      have h2 := own_cut h1 hcl
      rw [← List.map_take, List.take_left] at h2
      exact h2
    · have h1 := grownBy_sortedI (w := w) (g := g) (n := q) (os := #[]) (Lib.compact l ++ List.replicate (l.length - (Lib.compact l).length) 0).toArray
      rw [grow_empty] at h1
      exact (Below.refl base w).grown h1 hb (fun k hk => by injection hk with hk; rw [← hk]; exact hbg)
/-- hands out a rising row of what S says -/
def RisRet (S : Int → Prop) (w : World) (e : Ending) (w' : World) : Prop := ∃ A c, ∃ m : List Int, e = .returned (.slice A m.length c) ∧ Its w' w'.heap.size A m ∧ m.Pairwise (· < ·) ∧ (∀ z, z ∈ m ↔ S z) ∧ Below w.heap.size w w'
set_option maxRecDepth 20000 in
set_option maxHeartbeats 4000000 in
theorem p_ClassesC (x : Cs) (A : Option Addr) (c : Nat) (hf : fewC x = true) (w : World) (h : Rows3 w w.heap.size A x.ws) :
    Calls Try.prog 14 #[csv x A c] w (RisRet (inCs x) w) := by
  obtain ⟨hw6, hws⟩ := few_ws hf
  have Hws := hid hws
  have HSo := hid (fun v l X h hm hb => p_SortI w.heap.size v l X h hm hb)
  have HCo := hid (fun v l X h hm hb => p_CompI w.heap.size v l X h hm hb)
  have Hin := hid (show ∀ z, z ∈ x.ws.flatten.flatten ↔ inCs x z from fun z => Iff.rfl)
  obtain ⟨i0, hi0, hz0, hz1, hz2⟩ := info_parts Try.info_int14
  obtain ⟨P, W, hP, hW, K, hb0⟩ := (Mem.nil w).one (csc x A c) 24
  obtain ⟨e0, e1⟩ := K.out.cs (B := P) (x := x) (A := A) (c := c) (t := 24) (by simp)
  have H := hid h
  have K0 := hid (K.out.sub (l' := []) (by simp))
  have own0 := hid (World.ownsRow_nil W w.heap.size 3 1)
  clear h hb0 hf hws
  go_enter Try.func14, Try.ntmps14
  go_wp2_with fail
  clear e0 e1 K hP hW
  go_loopw [3, 11] (fun mv i wr => ∃ (k : Nat) (m : List Int), i = .int .i64 k ∧ k ≤ x.ws.length ∧ m.length ≤ 60 * k ∧ Hid (Mem w wr []) ∧ Hid (wr.ownsRow w.heap.size 3 1 mv m.length (m.map (Value.int .i64))) ∧ Hid (m = (x.ws.take k).flatten.flatten)) (fun _ i _ => x.ws.length - (intOf i).toNat)
  case atStart => exact ⟨0, [], rfl, Nat.zero_le _, Nat.zero_le _, K0, own0, hid (by simp)⟩
  case round =>
    clear K0 own0
    obtain ⟨k, m, rfl, hk, hml, K, HO, Hm⟩ := hrel
    by_cases hlt : k < x.ws.length
    · obtain ⟨ad, Ak, ck, u, hae, hadb, hx, hxl, hcx, hrx, hckx⟩ := H.out.at_ hlt
      subst hae
      obtain ⟨hu6, hus⟩ := Hws.out u hxl
      have Hus := hid hus
      have b1 : (0 : Int) ≤ (k : Int) := by omega
      have b2 : (k : Int) < x.ws.length := by omega
      have hbx : (ad.add k).block < w.heap.size := by rw [add_block]; exact hadb
      have hcx1 := (K.out.2.cell (p := ad.add k) hbx).trans hcx
      have HR := hid hrx
      obtain ⟨D, U, hD, hU, K2, hb2⟩ := K.out.one [.slice Ak u.length ck] 42
      have d0 := K2.out.cell (b := D) (cs := [.slice Ak u.length ck]) (t := 42) (by simp) (k := 0) rfl
      have HO2 := hid (own_below HO.out hb2)
      have K3 := hid (K2.out.sub (l' := []) (by simp))
      have Hm0 := hid (show m = (x.ws.take k).flatten.flatten ++ (u.take 0).flatten by rw [List.take_zero]; simpa using Hm.out)
      have Hnx := hid (show (x.ws.take k).flatten.flatten ++ u.flatten = (x.ws.take (k + 1)).flatten.flatten by
        rw [List.take_add_one, hx.out]
        simp)
      clear hrx hckx hcx hb2 K HO Hm hus K2
      go_wp2_with fail
      clear d0 hD hU hcx1
      go_loopw [3, 18] (fun mv i wr => ∃ (j : Nat) (m : List Int), i = .int .i64 j ∧ j ≤ u.length ∧ m.length ≤ 60 * k + 10 * j ∧ Hid (Mem w wr []) ∧ Hid (wr.ownsRow w.heap.size 3 1 mv m.length (m.map (Value.int .i64))) ∧ Hid (m = (x.ws.take k).flatten.flatten ++ (u.take j).flatten)) (fun _ i _ => u.length - (intOf i).toNat)
      case atStart => exact ⟨0, m, rfl, Nat.zero_le _, by omega, K3, HO2, Hm0⟩
      case round =>
        clear K3 HO2 Hm0 hml m
        obtain ⟨j, m, rfl, hj, hml, K3, HO, Hm⟩ := hrel
        by_cases hlt2 : j < u.length
        · obtain ⟨ae, Bk, dk, v, hbe, haeb, hy, hyl, hcy, hry, hdky⟩ := HR.out.get hlt2
          have hv10 := Hus.out v hyl
          have b3 : (0 : Int) ≤ (j : Int) := by omega
          have b4 : (j : Int) < u.length := by omega
          rw [hbe]
          have hby : (ae.add j).block < w.heap.size := by rw [add_block]; exact haeb
          have hcy1 := (K3.out.2.cell (p := ae.add j) hby).trans hcy
          have Hsrc := hid (src_its (P := Try.prog) wr Try.underlying29 (c := dk) (rfl : v.length = v.length) (hry.below K3.out.2 (Nat.le_refl _)))
          have q1 : m.length + v.length ≤ maxLen := by unfold maxLen; omega
          have q2 : (m.length + v.length) * 8 ≤ 140737488355328 := by omega
          have hK3 := K3.out.2.size
          have Hm2 := hid (show m ++ v = (x.ws.take k).flatten.flatten ++ (u.take (j + 1)).flatten by rw [Hm.out, flat_next hy.out, List.append_assoc])
          clear hry hdky hcy Hm
          go_wp2_with (at_builtin; refine wpList_append_srcN rfl _ _ 29 29 rfl w.heap.size 3 i0 (.int .i64 0) 1 8 Try.underlying29 hi0 hz0 hz1 hz2 rfl _ _ _ rfl HO.out _ _ _ rfl Hsrc.out q1 q2 hK3 ?_; intro v1 w5 hown2 hgrow)
          have K5 : Mem w w5 [] := ⟨fun p hp => by (cases hp), K3.out.2.grown hgrow hK3 (fun k hk => (HO.out.lt k hk).1)⟩
          refine ⟨⟨j + 1, m ++ v, by go_num, by omega, by rw [List.length_append]; omega, hid K5, ?_, Hm2⟩, by simp [intOf]; omega⟩
          rw [List.length_append, List.map_append]
          exact hid hown2
        · have b4 : ¬ (j : Int) < u.length := by omega
          have hju : j = u.length := by omega
          have Hm2 := hid (show m = (x.ws.take (k + 1)).flatten.flatten by rw [Hm.out, hju, List.take_length, Hnx.out])
          clear Hm
          go_wp2_with fail
          exact ⟨⟨k + 1, m, by go_num, by omega, by omega, K3, HO, Hm2⟩, by simp [intOf]; omega⟩
    · have b2 : ¬ (k : Int) < x.ws.length := by omega
      have hkl : k = x.ws.length := by omega
      have Hm2 := hid (show ∀ z, z ∈ m ↔ inCs x z from fun z => by rw [Hm.out, hkl, List.take_length]; exact Hin.out z)
      have hS := hid (HSo.out _ m wr HO.out (by omega) K.out.2.size)
      clear Hm HSo
      go_wp2_with fail
      refine hS.out.mono ?_
      rintro e1 Y ⟨rfl, ts, htl, hts, htm, hot, hbt⟩
      have HBt := hid (K.out.2.trans hbt)
      have hC := hid (HCo.out _ ts Y hot (by omega) HBt.out.size)
      have Hts := hid (show (Lib.compact ts).Pairwise (· < ·) ∧ ∀ z, z ∈ Lib.compact ts ↔ inCs x z from ⟨compact_rising hts, fun z => by rw [compact_mem, htm, Hm2.out]⟩)
      clear hts htm hot hbt HCo hS
      go_wp2_with fail
      refine hC.out.mono ?_
      rintro e2 Y2 ⟨v', rfl, hov, hb2⟩
      have HBc := hid (HBt.out.trans hb2)
      obtain ⟨A', c', hv', hr', _⟩ := own_rd hov
      have Hr' := hid hr'
      subst hv'
      clear hov hb2 hr' hC
      go_wp2_with fail
      go_ret
      exact ⟨A', c', Lib.compact ts, rfl, Hr'.out, Hts.out.1, Hts.out.2, HBc.out⟩
end Go.Proofs.Ytgkplcipplpobaa
