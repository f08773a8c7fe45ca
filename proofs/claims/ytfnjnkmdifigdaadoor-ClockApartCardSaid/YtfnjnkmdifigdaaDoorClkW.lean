/- Mathematics of layer 10 (clock): how the program makes and reads texts of weeks, run by run. Nothing of a program is spoken of here. -/
import Derived.Test.YtfnjnkmdifigdaaDoorClkU
namespace Go.Proofs.YtfnjnkmdifigdaaDoor.Clk

/-! ### runs of weeks, one behind the other -/
theorem Ris.up {m m' : Nat} {l : List (Nat × Nat)} (h : Ris m l) (hl : ∀ i, has l i = true → m' ≤ i) : Ris m' l := by
  cases l with
  | nil => trivial
  | cons p l =>
    obtain ⟨h1, h2, h3⟩ := h
    exact ⟨hl p.1 (by rw [has_cons, decide_eq_true (by omega), Bool.true_or]), h2, h3⟩
theorem wr_zero : wr 0 = [] := by
  refine ris_ext (wr_spec 0).1 (b := []) trivial fun i => ?_
  rw [wr_has 0 i (by decide), Nat.zero_testBit, Bool.and_false]
  rfl
/-- the first run of weeks, and the others -/
theorem wr_step {v v' f e : Nat} (hv : v < 2 ^ 20) (hfe : f < e) (h1 : ∀ j, j < f → v.testBit j = false) (h2 : ∀ j, f ≤ j → j < e → v.testBit j = true) (h3 : v.testBit e = false)
    (h4 : ∀ j, v'.testBit j = (v.testBit j && !decide (f ≤ j ∧ j < e))) : wr v = (f + 1, e) :: wr v' := by
  have hv' : v' < 2 ^ 20 := by
    apply Classical.byContradiction
    intro hn
    obtain ⟨j, hj, hb⟩ := Nat.exists_ge_and_testBit_of_ge_two_pow (x := v') (n := 20) (by omega)
    rw [h4, Nat.testBit_lt_two_pow (Nat.lt_of_lt_of_le hv (Nat.pow_le_pow_right (by decide) hj))] at hb
    cases hb
  have hw := wr_has v' (hw := hv')
  refine ris_ext (wr_spec v).1 (b := (f + 1, e) :: wr v') ⟨by show 1 ≤ f + 1; omega, by show f + 1 ≤ e; omega, Ris.up (wr_spec v').1 fun i hi => ?_⟩ fun i => ?_
  · show e + 2 ≤ i
    rw [hw, Bool.and_eq_true, decide_eq_true_iff, h4, Bool.and_eq_true, Bool.not_eq_true', decide_eq_false_iff_not] at hi
    obtain ⟨i1, i2, i3⟩ := hi
    apply Classical.byContradiction
    intro hn
    by_cases hif : i - 1 < f
    · rw [h1 _ hif] at i2; cases i2
    · by_cases hie : i - 1 = e
      · rw [hie, h3] at i2; cases i2
      · exact i3 ⟨by omega, by omega⟩
  · rw [wr_has v i hv, has_cons, hw, h4]
    by_cases hi : 1 ≤ i
    · rw [decide_eq_true hi, Bool.true_and, Bool.true_and]
      by_cases hin : f ≤ i - 1 ∧ i - 1 < e
      · rw [h2 _ hin.1 hin.2, decide_eq_true (show (f + 1, e).1 ≤ i ∧ i ≤ (f + 1, e).2 from ⟨by show f + 1 ≤ i; omega, by show i ≤ e; omega⟩), Bool.true_or]
      · rw [decide_eq_false hin, decide_eq_false (show ¬ ((f + 1, e).1 ≤ i ∧ i ≤ (f + 1, e).2) from fun h => hin ⟨by have := h.1; omega, by have := h.2; omega⟩)]
        simp
    · rw [decide_eq_false hi, decide_eq_false (show ¬ ((f + 1, e).1 ≤ i ∧ i ≤ (f + 1, e).2) from fun h => hi (by have := h.1; omega))]
      simp
/-- texts of runs, one more behind them -/
theorem inter_snoc (c : UInt8) (l : List (List UInt8)) (t : List UInt8) : [c].intercalate (l ++ [t]) = if l = [] then t else [c].intercalate l ++ c :: t := by
  induction l with
  | nil => simp [List.intercalate]
  | cons a l ih =>
    rw [if_neg (by simp)]
    cases l with
    | nil => simp [List.intercalate]
    | cons b l =>
      rw [List.cons_append, List.cons_append, Wrd.inter_cons, ← List.cons_append, ih, if_neg (by simp), Wrd.inter_cons, List.append_assoc, List.append_assoc]
      simp
theorem wt_snoc (l : List (Nat × Nat)) (p : Nat × Nat) : wt (l ++ [p]) = if l = [] then rt p else wt l ++ 44 :: rt p := by
  unfold wt
  rw [List.map_append, show [p].map rt = [rt p] from rfl, inter_snoc]
  cases l with
  | nil => rfl
  | cons a l => rw [if_neg (by simp), if_neg (by simp)]
theorem wt_nil (l : List (Nat × Nat)) : wt l = [] ↔ l = [] := by
  constructor
  · intro h
    cases l with
    | nil => rfl
    | cons p l =>
      cases l with
      | nil => exact absurd (show rt p = [] by rw [← h]; simp [wt, List.intercalate]) (rt_ne p)
      | cons q l =>
        unfold wt at h
        rw [List.map_cons, List.map_cons, Wrd.inter_cons] at h
        have := congrArg List.length h
        simp at this
  · rintro rfl
    simp [wt, List.intercalate]
theorem rt_len (p : Nat × Nat) : (rt p).length ≤ 41 := by
  have h1 := Dig.wd_length_le p.1
  have h2 := Dig.wd_length_le p.2
  unfold rt
  split
  · rw [List.length_append, List.length_cons]; omega
  · omega
theorem inter_len (l : List (List UInt8)) (c : UInt8) (n : Nat) (h : ∀ t ∈ l, t.length ≤ n) : ([c].intercalate l).length ≤ (n + 1) * l.length := by
  induction l with
  | nil => simp [List.intercalate]
  | cons a l ih =>
    have ha := h a (List.mem_cons_self ..)
    have hl := ih (fun t ht => h t (List.mem_cons_of_mem _ ht))
    cases l with
    | nil => simp [List.intercalate]; omega
    | cons b l =>
      rw [Wrd.inter_cons, List.length_append, List.length_append]
      rw [List.length_cons (as := b :: l), Nat.mul_succ]
      simp only [List.length_cons, List.length_nil] at hl ⊢
      omega
theorem wt_len (l : List (Nat × Nat)) : (wt l).length ≤ 42 * l.length := by
  unfold wt
  have := inter_len (l.map rt) 44 41 (fun t ht => by obtain ⟨p, _, rfl⟩ := List.mem_map.1 ht; exact rt_len p)
  rwa [List.length_map] at this
theorem Ris.count {m : Nat} {l : List (Nat × Nat)} (h : Ris m l) (hm : m ≤ 22) (hl : ∀ p ∈ l, p.2 ≤ 20) : m + 2 * l.length ≤ 22 + 1 := by
  induction l generalizing m with
  | nil => simp; omega
  | cons p l ih =>
    obtain ⟨h1, h2, h3⟩ := h
    have hp := hl p (List.mem_cons_self ..)
    have := ih h3 (by omega) (fun q hq => hl q (List.mem_cons_of_mem _ hq))
    rw [List.length_cons]
    omega
theorem wr_count (w : Nat) : (wr w).length ≤ 11 := by
  have := (wr_spec w).1.count (by omega) (fun p hp => ((wr_spec w).2.1 p hp).2.1)
  omega
theorem wk_len (w : Nat) : (wk w).length ≤ 462 := by
  unfold wk
  have h1 := wt_len (wr (w % 2 ^ 20))
  have h2 := wr_count (w % 2 ^ 20)
  omega
theorem runs_len (w i : Nat) : (runs w i).length ≤ i := by
  induction i with
  | zero => exact Nat.le_refl _
  | succ i ih =>
    rw [runs, List.length_append]
    split <;> simp <;> omega
/-- runs of the lower twenty bits alone -/
theorem enF_low (w v : Nat) (h : ∀ j, j < 20 → w.testBit j = v.testBit j) (f k : Nat) : enF w f k = enF v f k := by
  induction f generalizing k with
  | zero => rfl
  | succ f ih =>
    rw [enF, enF]
    by_cases hk : k + 1 < 20
    · rw [h _ hk, ih]
    · rw [if_neg (fun e => hk e.1), if_neg (fun e => hk e.1)]
theorem runs_low (w v : Nat) (h : ∀ j, j < 20 → w.testBit j = v.testBit j) (i : Nat) (hi : i ≤ 20) : runs w i = runs v i := by
  induction i with
  | zero => rfl
  | succ i ih =>
    rw [runs, runs, ih (by omega)]
    have e1 : beg w i = beg v i := by
      unfold beg
      rw [h i (by omega)]
      by_cases h0 : 0 < i
      · rw [h (i - 1) (by omega)]
      · rw [decide_eq_false h0, Bool.false_and, Bool.false_and]
    have e2 : en w i = en v i := enF_low w v h 20 i
    rw [e1, e2]
theorem wk_runs (w : Nat) : wt (runs w 20) = wk w := by
  unfold wk
  rw [← wr_eq, runs_low w (w % 2 ^ 20) (fun j hj => ?_) 20 (Nat.le_refl _)]
  rw [Nat.testBit_mod_two_pow, decide_eq_true hj, Bool.true_and]

/-! ### weeks of runs, run by run -/
theorem span_bit (a b j : Nat) (h : a ≤ b) : (2 ^ b - 2 ^ a).testBit j = decide (a ≤ j ∧ j < b) := by
  have e : 2 ^ b - 2 ^ a = 2 ^ a * (2 ^ (b - a) - 1) := by rw [Nat.mul_sub, ← Nat.pow_add, Nat.mul_one, show a + (b - a) = b by omega]
  rw [e, Nat.testBit_two_pow_mul, Nat.testBit_two_pow_sub_one, Bool.eq_iff_iff, Bool.and_eq_true, decide_eq_true_iff, decide_eq_true_iff, decide_eq_true_iff]
  omega
theorem wof_lt (l : List (Nat × Nat)) : wof l < 2 ^ 20 := msk_lt _ 20
theorem wof_bit (l : List (Nat × Nat)) (j : Nat) : (wof l).testBit j = (decide (j < 20) && has l (j + 1)) := msk_bit _ 20 j
theorem wof_ext {a b : List (Nat × Nat)} (h : ∀ j, j < 20 → has a (j + 1) = has b (j + 1)) : wof a = wof b := by
  refine Nat.eq_of_testBit_eq fun j => ?_
  rw [wof_bit, wof_bit]
  by_cases hj : j < 20
  · rw [h j hj]
  · rw [decide_eq_false hj, Bool.false_and, Bool.false_and]
theorem wof_nil : wof [] = 0 := Nat.eq_of_testBit_eq fun j => by rw [wof_bit, Nat.zero_testBit]; exact Bool.and_false _
theorem wof_snoc (l : List (Nat × Nat)) (p : Nat × Nat) (h1 : 1 ≤ p.1) (h2 : p.1 ≤ p.2) (h3 : p.2 ≤ 20) : wof (l ++ [p]) = wof l ||| (2 ^ p.2 - 2 ^ (p.1 - 1)) := by
  refine Nat.eq_of_testBit_eq fun j => ?_
  rw [Nat.testBit_or, wof_bit, wof_bit, has_append, span_bit _ _ _ (by omega)]
  have e : has [p] (j + 1) = decide (p.1 - 1 ≤ j ∧ j < p.2) := by
    rw [has_cons]
    show (_ || false) = _
    rw [Bool.or_false, decide_eq_decide]
    omega
  rw [e]
  by_cases hj : j < 20
  · rw [decide_eq_true hj]; simp
  · rw [decide_eq_false hj, decide_eq_false (show ¬ (p.1 - 1 ≤ j ∧ j < p.2) by omega)]; simp
/-- one week more, that was not there -/
theorem add_bit (x k : Nat) (hx : x < 2 ^ 20) (hk : k < 20) (h : x.testBit k = false) : x + 2 ^ k = x ||| 2 ^ k := by
  have h0 : x &&& 2 ^ k = 0 := by
    refine Nat.eq_of_testBit_eq fun j => ?_
    rw [Nat.testBit_and, Nat.testBit_two_pow, Nat.zero_testBit]
    by_cases hj : k = j
    · subst hj; rw [h, Bool.false_and]
    · rw [decide_eq_false hj, Bool.and_false]
  have h1 : BitVec.ofNat 21 x &&& BitVec.ofNat 21 (2 ^ k) = 0#21 := by
    rw [← BitVec.ofNat_and, h0]
  have h2 := congrArg BitVec.toNat (BitVec.add_eq_or_of_and_eq_zero _ _ h1)
  have hp : 2 ^ k ≤ 2 ^ 19 := Nat.pow_le_pow_right (by decide) (by omega)
  rw [BitVec.toNat_add, BitVec.toNat_or, BitVec.toNat_ofNat, BitVec.toNat_ofNat, Nat.mod_eq_of_lt (show x < 2 ^ 21 by omega), Nat.mod_eq_of_lt (show 2 ^ k < 2 ^ 21 by omega), Nat.mod_eq_of_lt (show x + 2 ^ k < 2 ^ 21 by omega)] at h2
  exact h2
/-- a run, one week behind the other, as the document has it -/
theorem wof_more (l : List (Nat × Nat)) (a k : Nat) (ha : a ≤ k) (hk : 1 ≤ k) (hk2 : k ≤ 20) (hl : has l k = false) : wof (l ++ [(a, k)]) = wof (l ++ [(a, k - 1)]) + 2 ^ (k - 1) := by
  have hb : (wof (l ++ [(a, k - 1)])).testBit (k - 1) = false := by
    rw [wof_bit, has_append, show k - 1 + 1 = k by omega, hl]
    have : has [(a, k - 1)] k = false := by
      rw [has_cons]
      show (_ || false) = false
      rw [Bool.or_false, decide_eq_false_iff_not]
      show ¬ (a ≤ k ∧ k ≤ k - 1)
      omega
    rw [this, Bool.or_false, Bool.and_false]
  rw [add_bit _ _ (wof_lt _) (by omega) hb]
  refine Nat.eq_of_testBit_eq fun j => ?_
  rw [Nat.testBit_or, wof_bit, wof_bit, Nat.testBit_two_pow, has_append, has_append]
  have e1 : has [(a, k)] (j + 1) = (has [(a, k - 1)] (j + 1) || decide (k - 1 = j)) := by
    rw [has_cons, has_cons]
    show (decide (a ≤ j + 1 ∧ j + 1 ≤ k) || false) = ((decide (a ≤ j + 1 ∧ j + 1 ≤ k - 1) || false) || decide (k - 1 = j))
    rw [Bool.or_false, Bool.or_false, Bool.eq_iff_iff, Bool.or_eq_true, decide_eq_true_iff, decide_eq_true_iff, decide_eq_true_iff]
    omega
  rw [e1]
  by_cases hj : j < 20
  · rw [decide_eq_true hj]; simp [Bool.or_assoc]
  · rw [decide_eq_false hj, decide_eq_false (show ¬ k - 1 = j by omega)]; simp
theorem wof_none (l : List (Nat × Nat)) (a k : Nat) (h : k < a ∨ k = 0) : wof (l ++ [(a, k)]) = wof l := by
  refine wof_ext fun j hj => ?_
  rw [has_append]
  have : has [(a, k)] (j + 1) = false := by
    rw [has_cons]
    show (decide (a ≤ j + 1 ∧ j + 1 ≤ k) || false) = false
    rw [Bool.or_false, decide_eq_false_iff_not]
    omega
  rw [this, Bool.or_false]
theorem wof_cut (l : List (Nat × Nat)) (a b k : Nat) (h : k = b ∨ (20 ≤ k ∧ 20 ≤ b)) : wof (l ++ [(a, k)]) = wof (l ++ [(a, b)]) := by
  refine wof_ext fun j hj => ?_
  rw [has_append, has_append]
  congr 1
  rw [has_cons, has_cons]
  show (decide (a ≤ j + 1 ∧ j + 1 ≤ k) || false) = (decide (a ≤ j + 1 ∧ j + 1 ≤ b) || false)
  rw [Bool.or_false, Bool.or_false, decide_eq_decide]
  omega
end Go.Proofs.YtfnjnkmdifigdaaDoor.Clk
