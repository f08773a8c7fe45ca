/- What the laws of layer 5 share: few, heads. -/
import Derived.Test.YteejccppdmjlaaaDoorSetP
namespace Go.Proofs.YteejccppdmjlaaaDoor
open Go.RowKit

theorem p_few (A A' : Option Addr) (n n' c c' : Nat) (w : World) : Calls Tryd.prog 5 #[.slice A n c, .slice A' n' c'] w (BoolRet (decide (n ≤ 70 ∧ n' ≤ 70)) w) := by
  by_cases h1 : (n : Int) ≤ 70 <;> by_cases h2 : (n' : Int) ≤ 70
  all_goals
    go_enter Tryd.func5, Tryd.ntmps5
    go_wp2_with fail
    go_ret
    refine BoolRet.mk ?_ _
    rw [Bool.eq_iff_iff]
    simp
    try omega

theorem of_small (l : List Int) (s : List Nat) (hl : ∀ i ∈ l, 0 ≤ i ∧ i < 128) (hs : s.length ≤ 2) (h : ∀ i < 128, Bst.mem s i = pOf l i) : ∀ i, Bst.mem s i = pOf l i := by
  intro i
  by_cases hi : i < 128
  · exact h i hi
  · rw [Bst.mem_ge (by omega)]
    unfold pOf
    rw [decide_eq_false (show ¬ (i : Int) ∈ l from fun hm => by have := hl _ hm; omega), Bool.and_false]
theorem of_a : ∀ i, Bst.mem [2, 1] i = pOf [1, 64, 1] i := of_small _ _ (by decide) (by decide) (by decide +kernel)
theorem of_b : ∀ i, Bst.mem [0, 1] i = pOf [64] i := of_small _ _ (by decide) (by decide) (by decide +kernel)
theorem of_c : ∀ i, Bst.mem [2] i = pOf [1] i := of_small _ _ (by decide) (by decide) (by decide +kernel)
theorem small_all (p : Nat → Bool) (s : List Nat) (hs : s.length ≤ 2) (h : ∀ i < 128, Bst.mem s i = p i) (hp : ∀ i, 128 ≤ i → p i = false) : ∀ i, Bst.mem s i = p i := by
  intro i
  by_cases hi : i < 128
  · exact h i hi
  · rw [Bst.mem_ge (by omega), hp i (by omega)]
theorem less_ab : ∀ i, Bst.mem [2] i = (Bst.mem [2, 1] i && !Bst.mem [0, 1] i) := small_all _ _ (by decide) (by decide +kernel) fun i hi => by rw [Bst.mem_ge (s := [2, 1]) (by show 64 * 2 ≤ i; omega)]; rfl
theorem in_c : ∀ i, Bst.mem [2] i = true → Bst.mem [2, 1] i = true := fun i hi => by
  have := Bst.mem_lt hi
  have h : ∀ i < 64, Bst.mem [2] i = true → Bst.mem [2, 1] i = true := by decide +kernel
  exact h i this hi
theorem not_same : ¬ ∀ i, Bst.mem [2, 1] i = Bst.mem [2] i := fun h => by have := h 64; revert this; decide +kernel
theorem cnt_a : (Bst.lst [2, 1]).length = 2 := by decide +kernel
theorem has_a : Bst.memI [2, 1] 64 = true := by decide +kernel
theorem has_b : Bst.memI [2, 1] 63 = false := by decide +kernel
theorem ok_of (l : List Nat) (h : l.all (fun x => decide (x < 18446744073709551616)) = true) : Bst.Ok l := fun x hx => by have := List.all_eq_true.1 h x hx; simpa using this

theorem SetIs.behind {l : List Nat} {w w1 : World} {e : Ending} {w' : World} (hb : Below w.heap.size w w1) (h : SetIs l w1 e w') : SetIs l w e w' := by
  obtain ⟨A, c, h1, h2, h3⟩ := h
  exact ⟨A, c, h1, h2, below2 hb h3⟩
theorem cells_u21 : (List.map ucell [2, 1]).toArray = #[.int .u64 2, .int .u64 1] := rfl
theorem cells_u2 : (List.map ucell [2]).toArray = #[.int .u64 2] := rfl
theorem its_one {w : World} {g : Nat} (hg : g = w.heap.size) (l : List Int) (t : TypeId) (hm : l.length ≤ maxLen) : Its (w.alloc (.cells (l.map (Value.int .i64)).toArray t)) (g + 1) (some ⟨g, 0, none⟩) l := its_lit' hg l t hm
theorem us_lit' {w : World} {g : Nat} (hg : g = w.heap.size) (l : List Nat) (t : TypeId) (hm : l.length ≤ maxLen) : Us (w.alloc (.cells (l.map ucell).toArray t)) (g + 1) (some ⟨g, 0, none⟩) l := by
  subst hg
  exact fun _ => ⟨_, rfl, Nat.lt_succ_self _, lit_cells w (l.map ucell) t (by rw [List.length_map]; exact hm)⟩
/-- a set beside a literal of the same words -/
theorem words_lit (l : List Nat) (n : Nat) (hn : l.length = n) (hm : n ≤ 1000) (A : Option Addr) (c : Nat) (g : Nat) (w : World) (hg : g = w.heap.size) (h : Us w w.heap.size A l) :
    Calls Tryd.prog 16 #[.slice A n c, .slice (some ⟨g, 0, none⟩) n n] (w.alloc (.cells (l.map ucell).toArray 35)) fun e w' => e = .returned (.bool true) ∧ Below w.heap.size w w' := by
  refine (r_Words A (some ⟨g, 0, none⟩) n n c n l l hn hn _ w.heap.size (g + 1) (h.below (below_alloc w _) (Nat.le_refl _)) (us_lit' hg l 35 (by unfold maxLen; omega)) (by unfold maxLen; omega)).mono ?_
  rintro e w' ⟨he, n, rfl⟩
  exact ⟨by rw [he, decide_eq_true rfl], below_drewN (below_alloc w _) n⟩
/-- a literal's numbers, put into a set -/
theorem of_lit (l : List Int) (s : List Nat) (ho : Bst.Ok s) (hs : Bst.Short s) (hl : ∀ i ∈ l, I64 i) (hln : l.length ≤ 1000) (hm : ∀ i, Bst.mem s i = pOf l i) (g : Nat) (w : World) (hg : g = w.heap.size) :
    Calls Tryd.prog 15 #[.slice (some ⟨g, 0, none⟩) l.length l.length] (w.alloc (.cells (l.map (Value.int .i64)).toArray 3)) (SetIs s w) :=
  (p_Of (some ⟨g, 0, none⟩) l.length l.length l rfl (by omega) hl (g + 1) _ (by subst hg; simp) (its_lit' hg l 3 (by unfold maxLen; omega))).mono fun _ _ h => SetIs.behind (below_alloc w _) (h.is s ho hs hm)

set_option maxRecDepth 20000 in
set_option maxHeartbeats 2000000 in
theorem heads (w : World) : Calls Tryd.prog 6 #[] w fun e w' => e = .returned (.bool true) ∧ Below w.heap.size w w' := by
  have o21 : Bst.Ok [2, 1] := ok_of _ rfl
  have o01 : Bst.Ok [0, 1] := ok_of _ rfl
  have o2 : Bst.Ok [2] := ok_of _ rfl
  have C1 := hid (of_lit [1, 64, 1] [2, 1] o21 (by simp [Bst.Short]) (by simp [I64]) (by decide) of_a)
  have C2 := hid (of_lit [64] [0, 1] o01 (by simp [Bst.Short]) (by simp [I64]) (by decide) of_b)
  have C3 := hid (of_lit [1] [2] o2 (by simp [Bst.Short]) (by simp [I64]) (by decide) of_c)
  unfold SetIs at C1 C2 C3
  have hW := hid (words_lit [2, 1] 2 rfl (by decide))
  have hW2 := hid (words_lit [2] 1 rfl (by decide))
  rw [cells_u21] at hW
  rw [cells_u2] at hW2
  have hL := hid (fun (A A' : Option Addr) (c c' : Nat) (w : World) (h : Us w w.heap.size A [2, 1]) (h' : Us w w.heap.size A' [0, 1]) => (p_Less A 2 c A' 2 c' [2, 1] [0, 1] rfl rfl (by decide) (by decide) o21 o01 _ w (Nat.le_refl _) h h').mono fun _ _ h => h.is [2] o2 (by simp [Bst.Short]) less_ab)
  unfold SetIs at hL
  have hC := hid (fun (A : Option Addr) (c : Nat) (w : World) (h : Us w w.heap.size A [2, 1]) => p_Count A 2 c [2, 1] rfl (by decide) o21 _ w (Nat.le_refl _) h)
  unfold CntRet at hC
  rw [cnt_a, show ((2 : Nat) : Int) = 2 from rfl] at hC
  have hH1 := hid (fun (A : Option Addr) (c : Nat) (w : World) (h : Us w w.heap.size A [2, 1]) => p_Has A 2 c [2, 1] rfl (by decide) o21 64 (by simp [I64]) _ w h)
  have hH2 := hid (fun (A : Option Addr) (c : Nat) (w : World) (h : Us w w.heap.size A [2, 1]) => p_Has A 2 c [2, 1] rfl (by decide) o21 63 (by simp [I64]) _ w h)
  unfold BoolRet at hH1 hH2
  rw [has_a] at hH1
  rw [has_b] at hH2
  have hI := hid (fun (A A' : Option Addr) (c c' : Nat) (w : World) (h : Us w w.heap.size A [2]) (h' : Us w w.heap.size A' [2, 1]) => (p_Inside A 1 c A' 2 c' [2] [2, 1] rfl rfl (by decide) (by decide) o2 o21 _ w (Nat.le_refl _) h h').mono (fun _ _ ⟨r, h1, h2, h3⟩ => (⟨h1.trans (by rw [h2.2 in_c]), h3⟩ : _ = Ending.returned (.bool true) ∧ _)))
  have hS := hid (fun (A A' : Option Addr) (c c' : Nat) (w : World) (h : Us w w.heap.size A [2, 1]) (h' : Us w w.heap.size A' [2]) => (p_Same5 A 2 c A' 1 c' [2, 1] [2] rfl rfl (by decide) (by decide) o21 o2 _ w (Nat.le_refl _) h h').mono (fun _ _ ⟨r, h1, h2, h3⟩ => (⟨h1.trans (by rw [show r = false by cases r with | false => rfl | true => exact absurd (h2.1 rfl) not_same]), h3⟩ : _ = Ending.returned (.bool false) ∧ _)))
  clear o21 o01 o2
  simp only [List.map_cons, List.map_nil, List.length_cons, List.length_nil, Nat.zero_add, Nat.reduceAdd] at C1 C2 C3 hL
  go_enter Tryd.func6, Tryd.ntmps6
  go_wp2_with fail
  refine (C1.out _ _ rfl).mono ?_
  rintro e w1 ⟨A1, c1, rfl, s1, b1⟩
  have S1 := hid s1
  clear s1
  go_wp2_with fail
  refine (hW.out _ _ _ _ rfl S1.out).mono ?_
  rintro e w2 ⟨rfl, b2⟩
  go_wp2_with fail
  refine (C2.out _ _ rfl).mono ?_
  rintro e w3 ⟨A3, c3, rfl, s3, b3⟩
  have S3 := hid s3
  have b13 := below2 b2 b3
  have S13 := hid (S1.out.below b13 (Nat.le_refl _))
  clear s3
  go_wp2_with fail
  refine (hL.out _ _ _ _ _ (S13.out.more b13.size) S3.out).mono ?_
  rintro e w4 ⟨A4, c4, rfl, s4, b4⟩
  have S4 := hid s4
  clear s4
  go_wp2_with fail
  refine (hW2.out _ _ _ _ rfl S4.out).mono ?_
  rintro e w5 ⟨rfl, b5⟩
  have b15 := below3 b13 b4 b5
  have S15 := hid ((S1.out.below b15 (Nat.le_refl _)).more b15.size)
  go_wp2_with fail
  refine (hC.out _ _ _ S15.out).mono ?_
  rintro e w6 ⟨rfl, b6⟩
  have S16 := hid ((S15.out.below b6 (Nat.le_refl _)).more b6.size)
  go_wp2_with fail
  refine (hH1.out _ _ _ S16.out).mono ?_
  rintro e w' ⟨rfl, rfl⟩
  go_wp2_with fail
  refine (hH2.out _ _ _ S16.out).mono ?_
  rintro e w' ⟨rfl, rfl⟩
  go_wp2_with fail
  refine (C3.out _ _ rfl).mono ?_
  rintro e w7 ⟨A7, c7, rfl, s7, b7⟩
  have S7 := hid s7
  have S17 := hid ((S16.out.below b7 (Nat.le_refl _)).more b7.size)
  clear s7
  go_wp2_with fail
  refine (hI.out _ _ _ _ _ S7.out S17.out).mono ?_
  rintro e w8 ⟨rfl, b8⟩
  have S18 := hid ((S17.out.below b8 (Nat.le_refl _)).more b8.size)
  go_wp2_with fail
  refine (C3.out _ _ rfl).mono ?_
  rintro e w9 ⟨A9, c9, rfl, s9, b9⟩
  have S9 := hid s9
  have S19 := hid ((S18.out.below b9 (Nat.le_refl _)).more b9.size)
  clear s9
  go_wp2_with fail
  refine (hS.out _ _ _ _ _ S19.out S9.out).mono ?_
  rintro e wx ⟨rfl, bx⟩
  go_wp2_with fail
  go_ret
  exact ⟨rfl, below2 (below2 (below2 b1 b15) (below3 b6 b7 b8)) (below2 b9 bx)⟩

/-- a set that was handed out, asked for a number -/
def HasVal (i : Int) (v : Bool) (w : World) (e : Ending) (w1 : World) : Prop := ∃ A n c, e = .returned (.slice A n c) ∧ Below w.heap.size w w1 ∧ Calls Tryd.prog 19 #[.slice A n c, .int .i64 i] w1 fun e w' => e = .returned (.bool v) ∧ w1 = w'
theorem SetRet.has {p : Nat → Bool} {w w1 : World} {e : Ending} (h : SetRet p w e w1) (hp : ∀ j, p j = true → j < 64 * 1000) (i : Int) (hi : I64 i) (v : Bool) (hv : (decide (0 ≤ i) && p i.toNat) = v) : HasVal i v w e w1 := by
  obtain ⟨A, c, l, h1, h2, h3, h4, h5, h6, h7⟩ := h
  have hl := Bst.short_len h5 h4 1000 (fun i hi => hp i (by rw [← h6]; exact hi))
  refine ⟨A, l.length, c, h1, h7, ?_⟩
  have := p_Has A l.length c l rfl (by omega) h4 i hi _ w1 h2
  unfold Bst.memI at this
  rw [h6, hv] at this
  exact this
theorem mem_lt' {s : List Nat} {n m : Nat} (hs : s.length = n) (hn : n ≤ m) {j : Nat} (h : Bst.mem s j = true) : j < 64 * m := by have := Bst.mem_lt h; omega
theorem words_same (A A' : Option Addr) (c c' : Nat) (l : List Nat) (hl : l.length ≤ 1000) (B B' : Nat) (w : World) (h : Us w B A l) (h' : Us w B' A' l) :
    Calls Tryd.prog 16 #[.slice A l.length c, .slice A' l.length c'] w fun e w' => e = .returned (.bool true) ∧ Below w.heap.size w w' := by
  refine (r_Words A A' l.length l.length c c' l l rfl rfl w B B' h h' (by unfold maxLen; omega)).mono ?_
  rintro e w' ⟨he, n, rfl⟩
  exact ⟨by rw [he, decide_eq_true rfl], below_drewN (Below.refl _ _) n⟩
theorem p_and_lt {s : List Nat} {n : Nat} (hl : s.length = n) (hn : n ≤ 1000) (q : Nat → Bool) : ∀ j, (Bst.mem s j && q j) = true → j < 64 * 1000 := fun j hj => by rw [Bool.and_eq_true] at hj; exact mem_lt' hl hn hj.1
theorem p_or_lt {s t : List Nat} {n m : Nat} (hl : s.length = n) (hn : n ≤ 1000) (hl' : t.length = m) (hm : m ≤ 1000) : ∀ j, (Bst.mem s j || Bst.mem t j) = true → j < 64 * 1000 := fun j hj => by rw [Bool.or_eq_true] at hj; exact hj.elim (mem_lt' hl hn) (mem_lt' hl' hm)
theorem pWith_lt {s : List Nat} {n : Nat} (hl : s.length = n) (hn : n ≤ 1000) (i : Int) : ∀ j, pWith s i j = true → j < 64 * 1000 := fun j hj => by
  unfold pWith at hj
  rw [Bool.or_eq_true, Bool.and_eq_true, decide_eq_true_iff, decide_eq_true_iff] at hj
  exact hj.elim (mem_lt' hl hn) (fun h => by omega)
theorem pWithout_lt {s : List Nat} {n : Nat} (hl : s.length = n) (hn : n ≤ 1000) (i : Int) : ∀ j, pWithout s i j = true → j < 64 * 1000 := fun j hj => by
  unfold pWithout at hj
  rw [Bool.and_eq_true] at hj
  exact mem_lt' hl hn hj.1
theorem pOf_lt (l : List Int) : ∀ j, pOf l j = true → j < 64 * 1000 := fun j hj => by
  unfold pOf at hj
  rw [Bool.and_eq_true, decide_eq_true_iff] at hj
  omega
/-- what a set is, once it has been handed out -/
theorem SetRet.take {p : Nat → Bool} {w w1 : World} {e : Ending} (h : SetRet p w e w1) (hp : ∀ j, p j = true → j < 64 * 1000) : ∃ A c l, e = .returned (.slice A l.length c) ∧ Us w1 w1.heap.size A l ∧ l.length ≤ 1000 ∧ Bst.Ok l ∧ Bst.Short l ∧ (∀ i, Bst.mem l i = p i) ∧ Below w.heap.size w w1 := by
  obtain ⟨A, c, l, h1, h2, _, h4, h5, h6, h7⟩ := h
  exact ⟨A, c, l, h1, h2, Bst.short_len h5 h4 1000 (fun i hi => hp i (by rw [← h6]; exact hi)), h4, h5, h6, h7⟩
theorem QRet.yes {p : Prop} {w w1 : World} {e : Ending} (h : QRet p w e w1) (hp : p) : e = .returned (.bool true) ∧ Below w.heap.size w w1 := by
  obtain ⟨r, h1, h2, h3⟩ := h
  exact ⟨by rw [h1, h2.2 hp], h3⟩
theorem QRet.no {p : Prop} {w w1 : World} {e : Ending} (h : QRet p w e w1) (hp : ¬ p) : e = .returned (.bool false) ∧ Below w.heap.size w w1 := by
  obtain ⟨r, h1, h2, h3⟩ := h
  exact ⟨by rw [h1, show r = false by cases r with | false => rfl | true => exact absurd (h2.1 rfl) hp], h3⟩
theorem less_nil {s t l : List Nat} (ho : Bst.Ok l) (hs : Bst.Short l) (hm : ∀ i, Bst.mem l i = (Bst.mem s i && !Bst.mem t i)) : l = [] ↔ ∀ i, Bst.mem s i = true → Bst.mem t i = true := by
  constructor
  · rintro rfl i hi
    have := hm i
    rw [Bst.mem_nil, hi, Bool.true_and] at this
    cases h : Bst.mem t i with
    | true => rfl
    | false => rw [h] at this; cases this
  · intro h
    refine Bst.nil_of ho hs fun i => ?_
    rw [hm]
    cases hi : Bst.mem s i with
    | true => rw [h i hi]; rfl
    | false => rfl
theorem same_iff {s t : List Nat} : (∀ i, Bst.mem s i = Bst.mem t i) ↔ (∀ i, Bst.mem s i = true → Bst.mem t i = true) ∧ ∀ i, Bst.mem t i = true → Bst.mem s i = true :=
  ⟨fun h => ⟨fun i hi => by rw [← h]; exact hi, fun i hi => by rw [h]; exact hi⟩, fun h i => by
    rw [Bool.eq_iff_iff]
    exact ⟨h.1 i, h.2 i⟩⟩
theorem bool_of (p : Prop) : ∃ q : Bool, q = true ↔ p := by
  classical exact ⟨decide p, decide_eq_true_iff⟩
theorem QRet.is {p : Prop} {w w1 : World} {e : Ending} (h : QRet p w e w1) (q : Bool) (hq : q = true ↔ p) : e = .returned (.bool q) ∧ Below w.heap.size w w1 := by
  obtain ⟨r, h1, h2, h3⟩ := h
  exact ⟨by rw [h1, Bool.eq_iff_iff.2 (h2.trans hq.symm)], h3⟩
theorem len_zero {l : List Nat} {p : Prop} (h : l = [] ↔ p) (q : Bool) (hq : q = true ↔ p) : ((l.length : Int) == 0) = q := by
  rw [Bool.eq_iff_iff, beq_iff_eq, hq, ← h]
  exact ⟨fun e => List.eq_nil_of_length_eq_zero (by omega), fun e => by rw [e]; rfl⟩
theorem ints_same (A A' : Option Addr) (n c c' : Nat) (l : List Int) (hn : l.length = n) (hl : n ≤ 100000) (B B' : Nat) (w : World) (h : Its w B A l) (h' : Its w B' A' l) :
    Calls Tryd.prog 10 #[.slice A n c, .slice A' n c'] w fun e w' => e = .returned (.bool true) ∧ Below w.heap.size w w' := by
  refine (p_Ints A A' n n c c' l l hn hn w B B' h h' (by unfold maxLen; omega)).mono ?_
  rintro e w' ⟨he, k, rfl⟩
  exact ⟨by rw [he, decide_eq_true rfl], below_drewN (Below.refl _ _) k⟩
end Go.Proofs.YteejccppdmjlaaaDoor
