/- The document's own answer for layer 5: And, Or, Less, With, Without, Of, List. -/
import Derived.Test.YteejccppdmjlaaaDoorSetB
namespace Go.Proofs.YteejccppdmjlaaaDoor
open Go.RowKit

theorem tfl_getD (N : Nat) (p : Nat → Bool) (i : Nat) : (tfl N p).getD i false = (decide (i < N) && p i) := by
  rw [List.getD_eq_getElem?_getD]
  by_cases h : i < N
  · rw [tfl_get _ _ _ h, decide_eq_true h]; rfl
  · rw [List.getElem?_eq_none (by rw [tfl_len]; omega), decide_eq_false h]; rfl
theorem tfl_next (N : Nat) (p q : Nat → Bool) (k : Nat) : tfl N (fun i => if i = k then q k else if i < k then q i else p i) = tfl N (fun i => if i < k + 1 then q i else p i) := by
  apply tfl_congr
  intro j _
  by_cases hj : j = k
  · subst hj; rw [if_pos rfl, if_pos (by omega)]
  · rw [if_neg hj]
    by_cases hlt : j < k
    · rw [if_pos hlt, if_pos (by omega)]
    · rw [if_neg hlt, if_neg (by omega)]
theorem tfl_start (N : Nat) (p q : Nat → Bool) : tfl N (fun i => if i < 0 then q i else p i) = tfl N p := tfl_congr _ _ _ fun i _ => by rw [if_neg (by omega)]
theorem tfl_done (N : Nat) (p q : Nat → Bool) : tfl N (fun i => if i < N then q i else p i) = tfl N q := tfl_congr _ _ _ fun i hi => by rw [if_pos hi]
theorem SetRet.congr {p q : Nat → Bool} {w : World} {e : Ending} {w' : World} (h : SetRet p w e w') (hpq : ∀ i, p i = q i) : SetRet q w e w' := by
  obtain ⟨A, c, l, h1, h2, h3, h4, h5, h6, h7⟩ := h
  exact ⟨A, c, l, h1, h2, h3, h4, h5, fun i => by rw [h6, hpq], h7⟩
theorem SetRet.behind {p : Nat → Bool} {w w1 : World} {e : Ending} {w' : World} (hb : Below w.heap.size w w1) (h : SetRet p w1 e w') : SetRet p w e w' := by
  obtain ⟨A, c, l, h1, h2, h3, h4, h5, h6, h7⟩ := h
  exact ⟨A, c, l, h1, h2, h3, h4, h5, h6, below2 hb h7⟩
theorem memI_nat (s : List Nat) (k : Nat) : Bst.memI s (k : Int) = Bst.mem s k := by unfold Bst.memI; rw [decide_eq_true (by omega), Int.toNat_natCast]; rfl
/-- Made of a row of truths that is the call's own -/
theorem rq_Made (g N : Nat) (hN : N ≤ 1000000) (p : Nat → Bool) (q : Nat → Bool) (hq : ∀ i, (decide (i < N) && p i) = q i) (base : Nat) (w : World) (h : w.ownsRow base 4 1 (.slice (some ⟨g, 0, none⟩) N N) N ((tfl N p).map Value.bool)) :
    Calls Tryd.prog 26 #[.slice (some ⟨g, 0, none⟩) N N] w (SetRet q w) :=
  (r_Made (some ⟨g, 0, none⟩) N N (tfl N p) (tfl_len _ _) hN w.heap.size w (Nat.le_refl _) (Rd.of_own h)).mono fun _ _ hr => hr.congr fun i => by rw [tfl_getD, hq]
theorem rq_Bools (A : Option Addr) (n c : Nat) (s : List Nat) (hn : s.length = n) (hm : n ≤ 10000) (m : Nat) (hm2 : m ≤ 1000000) (x : Int) (hx : x = (m : Int)) (N : Nat) (hN : max (64 * n) m = N) (B : Nat) (w : World) (hB : B ≤ w.heap.size) (h : Us w B A s) :
    Calls Tryd.prog 25 #[.slice A n c, .int .i64 x] w (TfRet N (Bst.mem s) w) := by
  subst hx; subst hN
  exact r_Bools A n c s hn hm m hm2 B w hB h

set_option maxHeartbeats 2000000 in
theorem r_Less (A : Option Addr) (n c : Nat) (A' : Option Addr) (n' c' : Nat) (s t : List Nat) (hn : s.length = n) (hn' : t.length = n') (hm : n ≤ 10000) (hm' : n' ≤ 10000) (B : Nat) (w : World) (hB : B ≤ w.heap.size) (h : Us w B A s) (h' : Us w B A' t) :
    Calls Tryd.prog 9 #[.slice A n c, .slice A' n' c'] w (SetRet (fun i => Bst.mem s i && !Bst.mem t i) w) := by
  obtain ⟨N, hN⟩ : ∃ N, max (64 * n) (64 * n') = N := ⟨_, rfl⟩
  have hN1 : N ≤ 1000000 := by omega
  have He := hid (fun w => r_end A' n' c' (by omega) w)
  have Hb := hid (fun (x : Int) (hx : x = ((64 * n' : Nat) : Int)) => rq_Bools A n c s hn hm (64 * n') (by omega) x hx N hN B w hB h)
  have Ha1 := hid (fun (i : Int) (hi : I64 i) (w' : World) (hb : Below w.heap.size w w') => r_Has A n c s hn (by omega) i hi B w' (h.below hb hB))
  have Ha2 := hid (fun (i : Int) (hi : I64 i) (w' : World) (hb : Below w.heap.size w w') => r_Has A' n' c' t hn' (by omega) i hi B w' (h'.below hb hB))
  unfold BoolRet at Ha1 Ha2
  have Hm := hid (fun g w' => rq_Made g N hN1 (fun i => Bst.mem s i && !Bst.mem t i) (fun i => Bst.mem s i && !Bst.mem t i) (fun i => by
    by_cases hi : i < N
    · rw [decide_eq_true hi, Bool.true_and]
    · rw [decide_eq_false hi, Bool.false_and, Bst.mem_ge (s := s) (by omega), Bst.mem_ge (s := t) (by omega)]; rfl) w.heap.size w')
  clear h h' hn hn'
  go_enter Tryd.func9, Tryd.ntmps9
  go_wp2_with fail
  refine (He.out _).mono ?_
  rintro e w' ⟨rfl, rfl⟩
  go_wp2_with fail
  refine (Hb.out _ (by omega)).mono ?_
  rintro e w1 ⟨g, rfl, hg, hown, hb⟩
  rw [← tfl_start N (Bst.mem s) (fun i => Bst.mem s i && !Bst.mem t i)] at hown
  clear He Hb
  go_wp2_with fail
  go_loopw [6] (fun iv wr => ∃ k : Nat, iv = .int .i64 k ∧ k ≤ N ∧ wr.ownsRow w.heap.size 4 1 (.slice (some ⟨g, 0, none⟩) N N) N ((tfl N (fun i => if i < k then (Bst.mem s i && !Bst.mem t i) else Bst.mem s i)).map Value.bool) ∧ Below w.heap.size w wr) (fun iv _ => N - (intOf iv).toNat)
  case atStart => exact ⟨0, rfl, Nat.zero_le _, hown, hb⟩
  case round =>
    clear hown hb
    obtain ⟨k, rfl, hk, hown, hb⟩ := hrel
    by_cases hlt : k < N
    · have hget := hown.cellAt k (by omega)
      have hfz := hown.frozenAt k
      obtain ⟨u, hu⟩ : ∃ u, ((tfl N (fun i => if i < k then (Bst.mem s i && !Bst.mem t i) else Bst.mem s i)).map Value.bool)[k]? = some u := ⟨_, List.getElem?_eq_getElem (by rw [List.length_map, tfl_len]; omega)⟩
      rw [hu] at hget
      clear hu
      have Hown := hid hown
      clear hown
      have Hc1 := hid (Ha1.out (k : Int) (by unfold I64; omega) wr hb)
      have Hc2 := hid (Ha2.out (k : Int) (by unfold I64; omega) wr hb)
      rw [memI_nat] at Hc1 Hc2
      have Hst := hid (fun u => (World.ownsRow.stored Hown.out k (Value.bool u)).1)
      have Hq := hid (tfl_next N (Bst.mem s) (fun i => Bst.mem s i && !Bst.mem t i) k)
      cases hx : Bst.mem s k <;> cases hy : Bst.mem t k
      all_goals
        rw [hx] at Hc1
        rw [hy] at Hc2
        try simp only [hx, hy] at Hq
        have Hx := hid hx
        have Hy := hid hy
        clear hx hy
        go_wp2_with fail
        refine (Hc1.out).mono ?_
        rintro e w' ⟨rfl, rfl⟩
        go_wp2_with fail
        try
          refine (Hc2.out).mono ?_
          rintro e w' ⟨rfl, rfl⟩
          go_wp2_with fail
        refine ⟨⟨k + 1, by go_num, by omega, ?_, hb.setCell (p := ⟨g, k, none⟩) hg _⟩, by simp [intOf]; omega⟩
        rw [← Hq.out, ← tfl_set, List.map_set]
        exact Hst.out _
    · obtain rfl : k = N := by omega
      rw [tfl_done] at hown
      go_wp2_with fail
      refine (Hm.out _ _ hown).mono ?_
      rintro e w2 ⟨A2, c2, l, rfl, h2, h3, h4, h5, h6, h7⟩
      go_wp2_with fail
      go_ret
      exact ⟨A2, c2, l, rfl, h2, h3, h4, h5, h6, below2 hb h7⟩
end Go.Proofs.YteejccppdmjlaaaDoor
