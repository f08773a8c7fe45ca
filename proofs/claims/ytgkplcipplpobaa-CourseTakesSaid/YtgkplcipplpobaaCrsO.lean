/- Mathematics of layer 14 (course): each load is of one of the ways; how many there are. No program's function is spoken of here. -/
import Derived.Test.YtgkplcipplpobaaCrsK
import Derived.Test.YtgkplcipplpobaaCrsM
namespace Go.Proofs.Ytgkplcipplpobaa
open Go.RowKit
open Whn (Gr Wh)

theorem allN_at {ls : List (List Int)} : ∀ {k : Nat} {r : List Int}, r ∈ allN ls k → ∀ i, i < k → r.getD i 0 ∈ ls.getD i []
  | 0, r, _, i, hi => absurd hi (Nat.not_lt_zero i)
  | k + 1, r, h, i, hi => by
    rw [allN, List.mem_flatMap] at h
    obtain ⟨q, hq, hr⟩ := h
    unfold addC at hr
    obtain ⟨y, hy, rfl⟩ := List.mem_map.1 hr
    have hl := allN_row hq
    rcases Nat.lt_or_ge i k with h' | h'
    · have := allN_at hq i h'
      have hg : (q ++ [y]).getD i 0 = q.getD i 0 := by rw [List.getD_eq_getElem?_getD, List.getD_eq_getElem?_getD, List.getElem?_append_left (by omega)]
      rwa [hg]
    · obtain rfl : i = k := by omega
      have hg : (q ++ [y]).getD i 0 = y := by
        rw [List.getD_eq_getElem?_getD, List.getElem?_append_right (by omega), hl, Nat.sub_self]; rfl
      rw [hg]
      exact hy
theorem way_apart {e : Int} {ls : List (List Int)} (h : wayR e ls = true) {j k : Nat} (hjk : j < k) (hk : k < ls.length) {o : Int} (hj : o ∈ ls.getD j []) (hok : o ∈ ls.getD k []) : False := by
  unfold wayR at h
  rw [Bool.and_eq_true] at h
  have h3 := List.all_eq_true.1 h.2 k (List.mem_range.2 hk)
  unfold partOk at h3
  rw [Bool.and_eq_true] at h3
  have h4 := List.all_eq_true.1 h3.2 o hok
  have h5 : o ∈ (ls.take k).flatten := by
    rw [List.mem_flatten]
    refine ⟨ls.getD j [], ?_, hj⟩
    refine List.mem_iff_getElem?.2 ⟨j, ?_⟩
    rw [List.getElem?_take, if_pos hjk, List.getD_eq_getElem?_getD, List.getElem?_eq_getElem (by omega)]
    rfl
  rw [decide_eq_true h5] at h4
  cases h4
theorem way_in {e : Int} {ls : List (List Int)} (h : wayR e ls = true) {k : Nat} (hk : k < ls.length) {o : Int} (ho : o ∈ ls.getD k []) : 0 ≤ o ∧ o < e := by
  unfold wayR at h
  rw [Bool.and_eq_true] at h
  have h3 := List.all_eq_true.1 h.2 k (List.mem_range.2 hk)
  unfold partOk at h3
  simp only [Bool.and_eq_true] at h3
  exact risingB_in h3.1.2 o ho
/-- each load that holds together is one of its way -/
theorem of_load {l : List ClA} {ls : List (List Int)} {r : List Int} (hw : wayR (l.length : Nat) ls = true) (hr : r ∈ allN ls ls.length) (hh : holdC l ls r = true) : ofC l ls r = true := by
  have hl := allN_row hr
  unfold ofC
  rw [hl, decide_eq_true rfl, Bool.true_and]
  refine range_yes fun i hi => ?_
  have hin := allN_at hr i hi
  obtain ⟨h0, h1⟩ := way_in hw hi hin
  have hri : r.getD i 0 ∈ r := by
    rw [List.getD_eq_getElem?_getD, List.getElem?_eq_getElem (by omega)]
    exact List.getElem_mem _
  have hn := List.all_eq_true.1 hh _ hri
  unfold ofI
  rw [decide_eq_true h0, decide_eq_true h1, decide_eq_true hin]
  simp only [Bool.true_and]
  refine range_yes fun k hk => ?_
  have hp : ls.getD k [] ∈ ls := by
    rw [List.getD_eq_getElem?_getD, List.getElem?_eq_getElem hk]
    exact List.getElem_mem hk
  have hn2 := List.all_eq_true.1 hn _ hp
  unfold ofN
  by_cases ho : ovr l (r.getD i 0) ∈ ls.getD k []
  · have hor : ovr l (r.getD i 0) ∈ r := by
      by_cases h : ovr l (r.getD i 0) ∈ r
      · exact h
      · rw [decide_eq_true ho, decide_eq_false h] at hn2
        cases hn2
    obtain ⟨j, hj, hje⟩ := List.mem_iff_getElem.1 hor
    have hjl : j < ls.length := by omega
    have hjin : ovr l (r.getD i 0) ∈ ls.getD j [] := by
      have hg : r.getD j 0 = ovr l (r.getD i 0) := by rw [List.getD_eq_getElem?_getD (l := r) (i := j), List.getElem?_eq_getElem hj, Option.getD_some, hje]
      have := allN_at hr j hjl
      rwa [hg] at this
    have hjk : j = k := by
      rcases Nat.lt_trichotomy j k with h | h | h
      · exact absurd (way_apart hw h hk hjin ho) id
      · exact h
      · exact absurd (way_apart hw h hjl ho hjin) id
    subst hjk
    have he : r.getD j 0 = ovr l (r.getD i 0) := by
      rw [List.getD_eq_getElem?_getD (l := r) (i := j), List.getElem?_eq_getElem hj, Option.getD_some, hje]
    rw [decide_eq_true he]
    simp
  · rw [decide_eq_false ho]
    rfl
theorem load_way {l : List ClA} {x : Cs} {r : List Int} (h : r ∈ loadsC l x) : ∃ ls ∈ x.ws, ofC l ls r = true := by
  unfold loadsC at h
  split at h
  · rename_i hR
    obtain ⟨ls, hls, hr⟩ := List.mem_flatMap.1 h
    obtain ⟨h1, h2⟩ := List.mem_filter.1 hr
    unfold csRight at hR
    rw [Bool.and_eq_true] at hR
    exact ⟨ls, hls, of_load (List.all_eq_true.1 hR.2 ls hls) h1 h2⟩
  · cases h
theorem allN_way {ls : List (List Int)} (h : ∀ l ∈ ls, l.length ≤ 8) : ∀ k, k ≤ 4 → (allN ls k).length = wayN ls k
  | 0, _ => rfl
  | k + 1, hk => by
    have ih := allN_way h k (by omega)
    have h1 := allN_max h (k := k + 1) hk
    rw [allN, flatMap_len] at h1 ⊢
    rw [wayN, ← ih]
    have h8 : (ls.getD k []).length ≤ 8 := by
      rw [List.getD_eq_getElem?_getD]
      cases hk : ls[k]? with
      | none => exact Nat.zero_le _
      | some l => exact h l (List.mem_of_getElem? hk)
    rw [Nat.min_eq_left (show (ls.getD k []).length ≤ 65536 by omega), Nat.min_eq_left (by omega)]
theorem loads_cnt {l : List ClA} {ws : List (List (List Int))} (h4 : ws.length ≤ 4) (h : ∀ ls ∈ ws, ls.length ≤ 4 ∧ ∀ p ∈ ls, p.length ≤ 8) : ∀ k, k ≤ ws.length → ((ws.take k).flatMap (loadsW l)).length ≤ cntN ws k
  | 0, _ => by simp
  | k + 1, hk => by
    have ih := loads_cnt (l := l) h4 h k (by omega)
    have hu : ws[k]? = some (ws.getD k []) := by rw [List.getD_eq_getElem?_getD, List.getElem?_eq_getElem (by omega)]; rfl
    obtain ⟨h1, h2⟩ := h _ (List.mem_of_getElem? hu)
    have h3 : (loadsW l (ws.getD k [])).length ≤ wayN (ws.getD k []) (ws.getD k []).length := by
      rw [← allN_way h2 _ h1]
      exact List.length_filter_le _ _
    have h5 : (loadsW l (ws.getD k [])).length ≤ 4096 := Nat.le_trans (List.length_filter_le _ _) (allN_max h2 h1)
    have h6 := flat_le (loadsW l) 4096 (ws.take k) (fun ls hls => Nat.le_trans (List.length_filter_le _ _) (allN_max (h ls (List.mem_of_mem_take hls)).2 (h ls (List.mem_of_mem_take hls)).1))
    have h7 : (ws.take k).length * 4096 ≤ 4 * 4096 := Nat.mul_le_mul_right _ (by rw [List.length_take]; omega)
    rw [List.take_add_one, hu, List.flatMap_append, List.length_append, cntN]
    have h8 : ((some (ws.getD k [])).toList.flatMap (loadsW l)).length = (loadsW l (ws.getD k [])).length := by simp
    rw [h8]
    omega
theorem loads_few {l : List ClA} {x : Cs} : (loadsC l x).length ≤ cntC x := by
  unfold loadsC
  split
  · rename_i hR
    obtain ⟨h4, h⟩ := right_ws hR
    have := loads_cnt (l := l) h4 (fun ls hls => ⟨(h ls hls).1, fun p hp => ((h ls hls).2 p hp).1⟩) x.ws.length (Nat.le_refl _)
    rwa [List.take_length] at this
  · exact Nat.zero_le _
/-- two rising rows with the same numbers are the same -/
theorem rising_ext : ∀ {a b : List Int}, a.Pairwise (· < ·) → b.Pairwise (· < ·) → (∀ z, z ∈ a ↔ z ∈ b) → a = b
  | [], [], _, _, _ => rfl
  | [], y :: b, _, _, h => absurd ((h y).2 List.mem_cons_self) (List.not_mem_nil)
  | x :: a, [], _, _, h => absurd ((h x).1 List.mem_cons_self) (List.not_mem_nil)
  | x :: a, y :: b, ha, hb, h => by
    obtain ⟨h1, h2⟩ := List.pairwise_cons.1 ha
    obtain ⟨h3, h4⟩ := List.pairwise_cons.1 hb
    have hxy : x = y := by
      rcases List.mem_cons.1 ((h x).1 List.mem_cons_self) with e | e
      · exact e
      · rcases List.mem_cons.1 ((h y).2 List.mem_cons_self) with e2 | e2
        · exact e2.symm
        · have := h3 x e
          have := h1 y e2
          omega
    subst hxy
    congr 1
    refine rising_ext h2 h4 fun z => ⟨fun hz => ?_, fun hz => ?_⟩
    · rcases List.mem_cons.1 ((h z).1 (List.mem_cons_of_mem _ hz)) with e | e
      · have := h1 z hz; omega
      · exact e
    · rcases List.mem_cons.1 ((h z).2 (List.mem_cons_of_mem _ hz)) with e | e
      · have := h3 z hz; omega
      · exact e
end Go.Proofs.Ytgkplcipplpobaa
