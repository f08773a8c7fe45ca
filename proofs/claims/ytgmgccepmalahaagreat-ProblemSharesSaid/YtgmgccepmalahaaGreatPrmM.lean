/- Lower layers: what the program itself answers (CrtG, CrtI, CrtK). -/
import Derived.Test.YtgmgccepmalahaaGreatShelf
import Derived.Test.YtgmgccepmalahaaGreatPqB
import Derived.Sort.OwnSortedInts
namespace Go.Proofs.YtgmgccepmalahaaGreat
open Go.RowKit
open Whn (Gr Wh)
theorem Ob.grown {W W' : World} {b : Nat} {row : Option Nat} {cs : List Value} {t : TypeId} (h : Ob W b cs t) (hg : W.grownBy W' row) (hne : some b ≠ row) : Ob W' b cs t := (hg.block b h.lt hne).trans h
end Go.Proofs.YtgmgccepmalahaaGreat
namespace Go.Proofs.YtgmgccepmalahaaGreat
open Go.RowKit Go.Sort
open Whn (Gr Wh)
theorem compact_mem (l : List Int) (z : Int) : z ∈ Lib.compact l ↔ z ∈ l := by
  have hg : ∀ i, i < l.length → l.toArray[i]! = l[i]! := fun i hi => by
    rw [getElem!_pos _ i (by simpa using hi), getElem!_pos _ i hi]; simp
  unfold Lib.compact Lib.compactUpTo
  rw [List.mem_map]
  constructor
  · rintro ⟨j, hj, rfl⟩
    have hjl := List.mem_range.1 (List.mem_filter.1 hj).1
    rw [hg j hjl, getElem!_pos _ j hjl]
    exact List.getElem_mem hjl
  · intro hz
    have key : ∀ i, i < l.length → ∃ a, a ∈ (List.range l.length).filter (Lib.keeps l.toArray) ∧ l.toArray[a]! = l.toArray[i]! := by
      intro i
      induction i with
      | zero =>
        intro hi
        exact ⟨0, List.mem_filter.2 ⟨List.mem_range.2 hi, by simp [Lib.keeps]⟩, rfl⟩
      | succ i ih =>
        intro hi
        by_cases hk : Lib.keeps l.toArray (i + 1) = true
        · exact ⟨i + 1, List.mem_filter.2 ⟨List.mem_range.2 hi, hk⟩, rfl⟩
        · obtain ⟨a, ha, e⟩ := ih (by omega)
          refine ⟨a, ha, e.trans ?_⟩
          unfold Lib.keeps at hk
          rw [decide_eq_true_iff] at hk
          simp only [Nat.add_sub_cancel, not_or, Decidable.not_not] at hk
          exact hk.2.symm
    obtain ⟨i, hi, e⟩ := List.mem_iff_getElem.1 hz
    obtain ⟨a, ha, e2⟩ := key i hi
    exact ⟨a, ha, by rw [e2, hg i hi, getElem!_pos _ i hi]; exact e⟩
theorem compact_rising {l : List Int} (h : l.Pairwise (· ≤ ·)) : (Lib.compact l).Pairwise (· < ·) := by
  have hg : ∀ i, i < l.length → l.toArray[i]! = l[i]! := fun i hi => by
    rw [getElem!_pos _ i (by simpa using hi), getElem!_pos _ i hi]; simp
  unfold Lib.compact Lib.compactUpTo
  rw [List.pairwise_map]
  refine List.Pairwise.imp_of_mem ?_ ((List.pairwise_lt_range (n := l.length)).filter _)
  intro a b ha hb hab
  have hal := List.mem_range.1 (List.mem_filter.1 ha).1
  obtain ⟨hbl, hkb⟩ := List.mem_filter.1 hb
  have hbl := List.mem_range.1 hbl
  unfold Lib.keeps at hkb
  rw [decide_eq_true_iff] at hkb
  have hne := hkb.resolve_left (by omega)
  have hp := List.pairwise_iff_getElem.1 h
  have h1 : l.toArray[a]! ≤ l.toArray[b - 1]! := by
    rw [hg a hal, hg (b - 1) (by omega), getElem!_pos _ a hal, getElem!_pos _ (b - 1) (by omega)]
    rcases Nat.lt_or_ge a (b - 1) with h | h
    · exact hp a (b - 1) hal (by omega) h
    · have : a = b - 1 := by omega
      subst this
      exact Int.le_refl _
  have h2 : l.toArray[b - 1]! ≤ l.toArray[b]! := by
    rw [hg b hbl, hg (b - 1) (by omega), getElem!_pos _ b hbl, getElem!_pos _ (b - 1) (by omega)]
    exact hp (b - 1) b (by omega) hbl (by omega)
  omega
theorem compact_len (l : List Int) : (Lib.compact l).length ≤ l.length := by
  unfold Lib.compact Lib.compactUpTo
  rw [List.length_map]
  exact Nat.le_trans (List.length_filter_le _ _) (by rw [List.length_range]; exact Nat.le_refl _)
theorem own_cut {w : World} {base : Nat} {e : TypeId} {g cap n k : Nat} {xs : List Value} (h : w.ownsRow base e 1 (.slice (some ⟨g, 0, none⟩) n cap) n xs) (hk : k ≤ n) : w.ownsRow base e 1 (.slice (some ⟨g, 0, none⟩) k cap) k (xs.take k) := by
  rcases h with ⟨h1, ⟨hv, _⟩ | ⟨g', cap', cur, hv, hb, hg, hn, hm, hs, ht⟩⟩
  · cases hv
  · injection hv with e1 _ e3
    injection e1 with e1
    injection e1 with e1
    subst e1; subst e3
    refine ⟨by rw [List.length_take, h1]; omega, .inr ⟨g, cap, cur, rfl, hb, hg, by omega, hm, hs, ?_⟩⟩
    rw [← ht, List.take_take]
    congr 1
    omega
/-- a row of the call's own that is sorted -/
theorem p_SortI (base : Nat) (v : Value) (l : List Int) (w : World) (h : w.ownsRow base 3 1 v l.length (l.map (Value.int .i64))) (hm : l.length ≤ 1000000) (hb : base ≤ w.heap.size) :
    Calls Tryz.prog 115 #[v] w fun e w' => e = .returned (.tuple #[]) ∧ ∃ ts : List Int, ts.length = l.length ∧ ts.Pairwise (· ≤ ·) ∧ (∀ z, z ∈ ts ↔ z ∈ l) ∧ w'.ownsRow base 3 1 v ts.length (ts.map (Value.int .i64)) ∧ Below base w w' := by
  rcases h.2 with ⟨rfl, h0⟩ | ⟨g, cap, cur, rfl, hbg, hg, hn, hcm, hs, ht⟩
  · have hl : l = [] := List.eq_nil_of_length_eq_zero h0
    subst hl
    have hcon := Any.slices_Sort_int_none Tryz.lays189 none 0 w
    change Calls Tryz.prog 115 _ _ _ at hcon
    refine hcon.mono ?_
    rintro e w' ⟨rfl, rfl⟩
    exact ⟨rfl, [], rfl, List.Pairwise.nil, fun z => Iff.rfl, h, Below.refl _ _⟩
  · have hlt : g < w.heap.size := (Array.getElem?_eq_some_iff.1 hg).1
    rw [Nat.mul_one] at ht
    have hcon := Any.slices_Sort_int Tryz.lays189 g 0 cap l w (holds_of_blockI hg ht) hlt (by omega)
    change Calls Tryz.prog 115 _ _ _ at hcon
    refine hcon.mono ?_
    rintro e w' ⟨rfl, n, os, rfl⟩
    have hlen : (l.mergeSort fun x y => decide (x ≤ y)).length = l.length := List.length_mergeSort l
    refine ⟨rfl, _, hlen, ?_, fun z => (List.mergeSort_perm l _).mem_iff, ?_, ?_⟩
    · have := List.pairwise_mergeSort (le := fun x y : Int => decide (x ≤ y)) (fun a b c h1 h2 => by
        rw [decide_eq_true_iff] at *; omega) (fun a b => by rw [Bool.or_eq_true, decide_eq_true_iff, decide_eq_true_iff]; omega) l
      exact this.imp fun h => of_decide_eq_true h
    · have := ownsRow_sortedI (n := n) (os := os) (ts := l.mergeSort fun x y => decide (x ≤ y)) hlen hbg hg hn hcm hs
      rw [hlen]
      exact this
    · exact (Below.refl base w).grown (grownBy_sortedI _) hb (fun k hk => by injection hk with hk; rw [← hk]; exact hbg)
/-- .. and of which each number stays once -/
theorem p_CompI (base : Nat) (v : Value) (l : List Int) (w : World) (h : w.ownsRow base 3 1 v l.length (l.map (Value.int .i64))) (hm : l.length ≤ 1000000) (hb : base ≤ w.heap.size) :
    Calls Tryz.prog 116 #[v] w fun e w' => ∃ v', e = .returned v' ∧ w'.ownsRow base 3 1 v' (Lib.compact l).length ((Lib.compact l).map (Value.int .i64)) ∧ Below base w w' := by
  rcases h.2 with ⟨rfl, h0⟩ | ⟨g, cap, cur, rfl, hbg, hg, hn, hcm, hs, ht⟩
  · have hl : l = [] := List.eq_nil_of_length_eq_zero h0
    subst hl
    have hcon := Any.slices_Compact_int_empty Tryz.laysNm220 none 0 w
    change Calls Tryz.prog 116 _ _ _ at hcon
    refine hcon.mono ?_
    rintro e w' ⟨rfl, rfl⟩
    exact ⟨_, rfl, h, Below.refl _ _⟩
  · rw [Nat.mul_one] at ht
    have hcon := Any.slices_Compact_int Tryz.laysNm220 g 0 cap l w (holds_of_blockI hg ht) (by omega) hn
    change Calls Tryz.prog 116 _ _ _ at hcon
    refine hcon.mono ?_
    rintro e w' ⟨rfl, q, rfl⟩
    have hcl := compact_len l
    have hlen : (Lib.compact l ++ List.replicate (l.length - (Lib.compact l).length) 0).length = l.length := by rw [List.length_append, List.length_replicate]; omega
    refine ⟨_, rfl, ?_, ?_⟩
    · have h1 := ownsRow_sortedI (n := q) (os := #[]) hlen hbg hg hn hcm hs
      rw [grow_empty] at h1
      have h2 := own_cut h1 hcl
      rw [← List.map_take, List.take_left] at h2
      exact h2
    · have h1 := grownBy_sortedI (w := w) (g := g) (n := q) (os := #[]) (Lib.compact l ++ List.replicate (l.length - (Lib.compact l).length) 0).toArray
      rw [grow_empty] at h1
      exact (Below.refl base w).grown h1 hb (fun k hk => by injection hk with hk; rw [← hk]; exact hbg)
end Go.Proofs.YtgmgccepmalahaaGreat
