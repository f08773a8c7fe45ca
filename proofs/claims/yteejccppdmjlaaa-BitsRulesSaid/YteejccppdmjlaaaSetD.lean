/- The document's own answer for layer 5: With, Without, Of, List. -/
import Derived.Test.YteejccppdmjlaaaSetC
namespace Go.Proofs.Yteejccppdmjlaaa
open Go.RowKit

def pWith (s : List Nat) (i : Int) (j : Nat) : Bool := Bst.mem s j || (decide (0 ≤ i ∧ i < 4096) && decide ((j : Int) = i))
def pWithout (s : List Nat) (i : Int) (j : Nat) : Bool := Bst.mem s j && !decide ((j : Int) = i)
def pOf (l : List Int) (j : Nat) : Bool := decide (j < 4096) && decide ((j : Int) ∈ l)

set_option maxHeartbeats 2000000 in
theorem r_With (A : Option Addr) (n c : Nat) (s : List Nat) (hn : s.length = n) (hm : n ≤ 10000) (i : Int) (hi : I64 i) (B : Nat) (w : World) (hB : B ≤ w.heap.size) (h : Us w B A s) :
    Calls Try.prog 19 #[.slice A n c, .int .i64 i] w (SetRet (pWith s i) w) := by
  unfold I64 at hi
  obtain ⟨N, hN⟩ : ∃ N, max (64 * n) 4096 = N := ⟨_, rfl⟩
  have hN1 : N ≤ 1000000 := by omega
  have Hb := hid (rq_Bools A n c s hn hm 4096 (by omega) 4096 rfl N hN B w hB h)
  by_cases hmay : 0 ≤ i ∧ i < 4096
  · obtain ⟨k, rfl⟩ : ∃ k : Nat, i = k := ⟨i.toNat, by omega⟩
    have hk : k < N := by omega
    have hm1 : (0 : Int) ≤ (k : Int) := by omega
    have hm2 : (k : Int) < 4096 := by omega
    have Hm := hid (fun g w' => rq_Made g N hN1 (fun j => if j = k then true else Bst.mem s j) (pWith s (k : Int)) (fun j => by
      unfold pWith
      by_cases hj : j = k
      · subst hj; rw [if_pos rfl, decide_eq_true hk, decide_eq_true hmay, decide_eq_true rfl]; cases Bst.mem s j <;> rfl
      · rw [if_neg hj, decide_eq_false (show ¬ ((j : Int) = k) by omega), Bool.and_false, Bool.or_false]
        by_cases hjN : j < N
        · rw [decide_eq_true hjN]; rfl
        · rw [decide_eq_false hjN, Bst.mem_ge (by omega)]; rfl) w.heap.size w')
    clear h hn hmay
    go_enter Try.func19, Try.ntmps19
    go_wp2_with fail
    refine (Hb.out).mono ?_
    rintro e w1 ⟨g, rfl, hg, hown, hb⟩
    have hget := hown.cellAt k (by omega)
    have hfz := hown.frozenAt k
    obtain ⟨u, hu⟩ : ∃ u, ((tfl N (Bst.mem s)).map Value.bool)[k]? = some u := ⟨_, List.getElem?_eq_getElem (by rw [List.length_map, tfl_len]; omega)⟩
    rw [hu] at hget
    clear hu
    have Hst := hid (World.ownsRow.stored hown k (Value.bool true)).1
    clear hown
    rw [← List.map_set, tfl_set] at Hst
    have hkN : (k : Int) < (N : Int) := by omega
    go_wp2_with fail
    refine (Hm.out _ _ Hst.out).mono ?_
    rintro e w2 ⟨A2, c2, l, rfl, h2, h3, h4, h5, h6, h7⟩
    go_wp2_with fail
    go_ret
    exact ⟨A2, c2, l, rfl, h2, h3, h4, h5, h6, below2 (hb.setCell (p := ⟨g, k, none⟩) hg _) h7⟩
  · have Hm := hid (fun g w' => rq_Made g N hN1 (Bst.mem s) (pWith s i) (fun j => by
      unfold pWith
      rw [decide_eq_false hmay, Bool.false_and, Bool.or_false]
      by_cases hjN : j < N
      · rw [decide_eq_true hjN]; rfl
      · rw [decide_eq_false hjN, Bst.mem_ge (by omega)]; rfl) w.heap.size w')
    clear h hn
    by_cases h0 : i < 0
    all_goals
      try (have h1 : ¬ i < 4096 := by omega)
      go_enter Try.func19, Try.ntmps19
      go_wp2_with fail
      refine (Hb.out).mono ?_
      rintro e w1 ⟨g, rfl, hg, hown, hb⟩
      go_wp2_with fail
      refine (Hm.out _ _ hown).mono ?_
      rintro e w2 ⟨A2, c2, l, rfl, h2, h3, h4, h5, h6, h7⟩
      go_wp2_with fail
      go_ret
      exact ⟨A2, c2, l, rfl, h2, h3, h4, h5, h6, below2 hb h7⟩

set_option maxHeartbeats 2000000 in
theorem r_Without (A : Option Addr) (n c : Nat) (s : List Nat) (hn : s.length = n) (hm : n ≤ 10000) (i : Int) (hi : I64 i) (B : Nat) (w : World) (hB : B ≤ w.heap.size) (h : Us w B A s) :
    Calls Try.prog 20 #[.slice A n c, .int .i64 i] w (SetRet (pWithout s i) w) := by
  unfold I64 at hi
  obtain ⟨N, hN⟩ : ∃ N, max (64 * n) 0 = N := ⟨_, rfl⟩
  have hN1 : N ≤ 1000000 := by omega
  have Hb := hid (rq_Bools A n c s hn hm 0 (by omega) 0 rfl N hN B w hB h)
  by_cases hmay : 0 ≤ i ∧ i < N
  · obtain ⟨k, rfl⟩ : ∃ k : Nat, i = k := ⟨i.toNat, by omega⟩
    have hk : k < N := by omega
    have hm1 : (0 : Int) ≤ (k : Int) := by omega
    have hm2 : (k : Int) < (N : Int) := by omega
    have Hm := hid (fun g w' => rq_Made g N hN1 (fun j => if j = k then false else Bst.mem s j) (pWithout s (k : Int)) (fun j => by
      unfold pWithout
      by_cases hj : j = k
      · subst hj; rw [if_pos rfl, decide_eq_true rfl, Bool.and_false]; exact (Bool.and_false _).symm
      · rw [if_neg hj, decide_eq_false (show ¬ ((j : Int) = k) by omega), Bool.not_false, Bool.and_true]
        by_cases hjN : j < N
        · rw [decide_eq_true hjN]; rfl
        · rw [decide_eq_false hjN, Bst.mem_ge (by omega)]; rfl) w.heap.size w')
    clear h hn hmay
    go_enter Try.func20, Try.ntmps20
    go_wp2_with fail
    refine (Hb.out).mono ?_
    rintro e w1 ⟨g, rfl, hg, hown, hb⟩
    have hget := hown.cellAt k (by omega)
    have hfz := hown.frozenAt k
    obtain ⟨u, hu⟩ : ∃ u, ((tfl N (Bst.mem s)).map Value.bool)[k]? = some u := ⟨_, List.getElem?_eq_getElem (by rw [List.length_map, tfl_len]; omega)⟩
    rw [hu] at hget
    clear hu
    have Hst := hid (World.ownsRow.stored hown k (Value.bool false)).1
    clear hown
    rw [← List.map_set, tfl_set] at Hst
    go_wp2_with fail
    refine (Hm.out _ _ Hst.out).mono ?_
    rintro e w2 ⟨A2, c2, l, rfl, h2, h3, h4, h5, h6, h7⟩
    go_wp2_with fail
    go_ret
    exact ⟨A2, c2, l, rfl, h2, h3, h4, h5, h6, below2 (hb.setCell (p := ⟨g, k, none⟩) hg _) h7⟩
  · have Hm := hid (fun g w' => rq_Made g N hN1 (Bst.mem s) (pWithout s i) (fun j => by
      unfold pWithout
      by_cases hjN : j < N
      · rw [decide_eq_true hjN, decide_eq_false (show ¬ ((j : Int) = i) by omega), Bool.not_false, Bool.and_true]; rfl
      · rw [decide_eq_false hjN, Bst.mem_ge (by omega)]; rfl) w.heap.size w')
    clear h hn
    by_cases h0 : i < 0
    all_goals
      try (have h1 : ¬ i < (N : Int) := by omega)
      go_enter Try.func20, Try.ntmps20
      go_wp2_with fail
      refine (Hb.out).mono ?_
      rintro e w1 ⟨g, rfl, hg, hown, hb⟩
      go_wp2_with fail
      refine (Hm.out _ _ hown).mono ?_
      rintro e w2 ⟨A2, c2, l, rfl, h2, h3, h4, h5, h6, h7⟩
      go_wp2_with fail
      go_ret
      exact ⟨A2, c2, l, rfl, h2, h3, h4, h5, h6, below2 hb h7⟩

set_option maxHeartbeats 2000000 in
theorem r_Of (A : Option Addr) (n c : Nat) (l : List Int) (hn : l.length = n) (hm : n ≤ 1000000) (hl : ∀ i ∈ l, I64 i) (B : Nat) (w : World) (hB : B ≤ w.heap.size) (h : Its w B A l) :
    Calls Try.prog 22 #[.slice A n c] w (SetRet (pOf l) w) := by
  subst hn
  have Hm := hid (fun g w' => rq_Made g 4096 (by decide) (fun j => decide ((j : Int) ∈ l)) (pOf l) (fun j => rfl) w.heap.size w')
  obtain ⟨i0, hi, hz0, hz1, hz2⟩ := info_parts Try.info_bool
  have hb2 : i0.bytes * 4096 ≤ 281474976710656 := by rw [hz2]; omega
  have hb3 : 4096 ≤ maxLen := by unfold maxLen; omega
  have H := hid h
  have Hl := hid hl
  clear h hl
  go_enter Try.func22, Try.ntmps22
  go_wp2_with (at_make; refine wpList_make_full _ rfl _ _ 40 rfl w.heap.size 4 i0 (.bool false) 1 Try.underlying40 hi hz0 hz1 .i64 .i64 _ _ 4096 rfl rfl rfl rfl hb2 hb3 (Nat.le_refl _) ?_; intro w1 hown hgrow)
  have hb : Below w.heap.size w w1 := (Below.refl _ _).grown hgrow (Nat.le_refl _) (fun k hk => by cases hk)
  have hown0 : w1.ownsRow w.heap.size 4 1 (.slice (some ⟨w.heap.size, 0, none⟩) 4096 4096) 4096 ((tfl 4096 (fun j => decide ((j : Int) ∈ l.take 0))).map Value.bool) := by
    rw [show (fun (j : Nat) => decide ((j : Int) ∈ l.take 0)) = fun _ => false from by funext j; rw [List.take_zero]; rfl, tfl_false, List.map_replicate]
    rw [made_bool] at hown
    exact hown
  clear hown hgrow hb2 hb3
  go_loopw [4] (fun iv wr => ∃ k : Nat, iv = .int .i64 k ∧ k ≤ l.length ∧ wr.ownsRow w.heap.size 4 1 (.slice (some ⟨w.heap.size, 0, none⟩) 4096 4096) 4096 ((tfl 4096 (fun j => decide ((j : Int) ∈ l.take k))).map Value.bool) ∧ Below w.heap.size w wr) (fun iv _ => l.length - (intOf iv).toNat)
  case atStart => exact ⟨0, rfl, Nat.zero_le _, hown0, hb⟩
  case round =>
    clear hown0 hb
    obtain ⟨k, rfl, hk, hown, hb⟩ := hrel
    by_cases hlt : k < l.length
    · obtain ⟨ad, x, rfl, hadb, Hx, hc⟩ := Its.get (H.out.below hb hB) hlt
      have hxl : I64 x := Hl.out x (List.mem_of_getElem? Hx.out)
      unfold I64 at hxl
      have htk : l.take (k + 1) = l.take k ++ [x] := by rw [List.take_add_one, Hx.out]; rfl
      by_cases hmay : 0 ≤ x ∧ x < 4096
      · obtain ⟨i, rfl⟩ : ∃ i : Nat, x = i := ⟨x.toNat, by omega⟩
        have hm1 : (0 : Int) ≤ (i : Int) := by omega
        have hm2 : (i : Int) < 4096 := by omega
        have hget := hown.cellAt i (by omega)
        have hfz := hown.frozenAt i
        obtain ⟨u, hu⟩ : ∃ u, ((tfl 4096 (fun j => decide ((j : Int) ∈ l.take k))).map Value.bool)[i]? = some u := ⟨_, List.getElem?_eq_getElem (by rw [List.length_map, tfl_len]; omega)⟩
        rw [hu] at hget
        clear hu
        have Hst := hid (World.ownsRow.stored hown i (Value.bool true)).1
        rw [← List.map_set, tfl_set] at Hst
        have e : tfl 4096 (fun j => if j = i then true else decide ((j : Int) ∈ l.take k)) = tfl 4096 (fun j => decide ((j : Int) ∈ l.take (k + 1))) := by
          apply tfl_congr
          intro j _
          rw [htk]
          by_cases hj : j = i
          · subst hj; rw [if_pos rfl, decide_eq_true (by simp)]
          · rw [if_neg hj, decide_eq_decide]
            have : ¬ (j : Int) = i := by omega
            simp [this]
        rw [e] at Hst
        clear hown hmay htk e
        go_wp2_with fail
        exact ⟨⟨k + 1, by go_num, by omega, Hst.out, hb.setCell (p := ⟨w.heap.size, i, none⟩) (Nat.le_refl _) _⟩, by simp [intOf]; omega⟩
      · have e : tfl 4096 (fun j => decide ((j : Int) ∈ l.take k)) = tfl 4096 (fun j => decide ((j : Int) ∈ l.take (k + 1))) := by
          apply tfl_congr
          intro j hj
          rw [htk, decide_eq_decide]
          have : ¬ (j : Int) = x := by omega
          simp [this]
        rw [e] at hown
        have Hown := hid hown
        clear hown htk e
        by_cases h0 : x < 0
        all_goals
          try (have h1 : ¬ x < 4096 := by omega)
          clear hmay
          go_wp2_with fail
          exact ⟨⟨k + 1, by go_num, by omega, Hown.out, hb⟩, by simp [intOf]; omega⟩
    · obtain rfl : k = l.length := by omega
      rw [List.take_length] at hown
      go_wp2_with fail
      refine (Hm.out _ _ hown).mono ?_
      rintro e w2 ⟨A2, c2, l2, rfl, h2, h3, h4, h5, h6, h7⟩
      go_wp2_with fail
      go_ret
      exact ⟨A2, c2, l2, rfl, h2, h3, h4, h5, h6, below2 hb h7⟩
end Go.Proofs.Yteejccppdmjlaaa
