/- Mathematics of layer 10 (clock): weeks as runs, and their texts. Nothing of a program is spoken of here. -/
import Derived.Test.YtfnjnkmdifigdaaDoorDigM
import Derived.Test.YtfnjnkmdifigdaaDoorWrdM
namespace Go.Proofs.YtfnjnkmdifigdaaDoor.Clk

/-! ### runs -/
/-- a run's text; a run is its first and its last number -/
def rt (p : Nat × Nat) : List UInt8 := if p.1 < p.2 then Dig.wd p.1 ++ 45 :: Dig.wd p.2 else Dig.wd p.1
def wt (l : List (Nat × Nat)) : List UInt8 := [44].intercalate (l.map rt)
/-- runs rise, from m on, and do not touch -/
def Ris : Nat → List (Nat × Nat) → Prop
  | _, [] => True
  | m, p :: l => m ≤ p.1 ∧ p.1 ≤ p.2 ∧ Ris (p.2 + 2) l
def has (l : List (Nat × Nat)) (i : Nat) : Bool := l.any fun p => decide (p.1 ≤ i ∧ i ≤ p.2)
theorem has_iff (l : List (Nat × Nat)) (i : Nat) : has l i = true ↔ ∃ p ∈ l, p.1 ≤ i ∧ i ≤ p.2 := by
  unfold has
  rw [List.any_eq_true]
  constructor
  · rintro ⟨p, h, h2⟩
    rw [decide_eq_true_iff] at h2
    exact ⟨p, h, h2⟩
  · rintro ⟨p, h, h2⟩
    exact ⟨p, h, by rw [decide_eq_true_iff]; exact h2⟩
theorem has_cons (p : Nat × Nat) (l : List (Nat × Nat)) (i : Nat) : has (p :: l) i = (decide (p.1 ≤ i ∧ i ≤ p.2) || has l i) := rfl
theorem Ris.low {m : Nat} {l : List (Nat × Nat)} (h : Ris m l) {i : Nat} (hi : i < m) : has l i = false := by
  induction l generalizing m with
  | nil => rfl
  | cons p l ih =>
    obtain ⟨h1, h2, h3⟩ := h
    rw [has_cons, ih h3 (by omega), decide_eq_false (by omega)]
    rfl
theorem Ris.mono {m m' : Nat} {l : List (Nat × Nat)} (h : Ris m l) (hm : m' ≤ m) : Ris m' l := by
  cases l with
  | nil => trivial
  | cons p l =>
    obtain ⟨h1, h2, h3⟩ := h
    exact ⟨by omega, h2, h3⟩
/-- runs of the same numbers are the same -/
theorem ris_ext {m : Nat} {a b : List (Nat × Nat)} (ha : Ris m a) (hb : Ris m b) (h : ∀ i, has a i = has b i) : a = b := by
  induction a generalizing m b with
  | nil =>
    cases b with
    | nil => rfl
    | cons q b =>
      obtain ⟨h1, h2, h3⟩ := hb
      have := h q.1
      rw [has_cons, decide_eq_true (by omega)] at this
      cases this
  | cons p a ih =>
    cases b with
    | nil =>
      obtain ⟨h1, h2, h3⟩ := ha
      have := h p.1
      rw [has_cons, decide_eq_true (by omega)] at this
      cases this
    | cons q b =>
      obtain ⟨a1, a2, a3⟩ := ha
      obtain ⟨b1, b2, b3⟩ := hb
      have key : ∀ i, (decide (p.1 ≤ i ∧ i ≤ p.2) || has a i) = (decide (q.1 ≤ i ∧ i ≤ q.2) || has b i) := fun i => by
        rw [← has_cons, ← has_cons]
        exact h i
      have e1 : p.1 = q.1 := by
        rcases Nat.lt_trichotomy p.1 q.1 with hlt | he | hgt
        · have k := key p.1
          rw [decide_eq_true (by omega), decide_eq_false (by omega), Ris.low b3 (by omega)] at k
          cases k
        · exact he
        · have k := key q.1
          rw [decide_eq_true (show q.1 ≤ q.1 ∧ q.1 ≤ q.2 by omega), decide_eq_false (by omega), Ris.low a3 (by omega)] at k
          cases k
      have e2 : p.2 = q.2 := by
        rcases Nat.lt_trichotomy p.2 q.2 with hlt | he | hgt
        · have k := key (p.2 + 1)
          rw [decide_eq_false (by omega), decide_eq_true (by omega), Ris.low a3 (by omega)] at k
          cases k
        · exact he
        · have k := key (q.2 + 1)
          rw [decide_eq_true (by omega), decide_eq_false (by omega), Ris.low b3 (by omega)] at k
          cases k
      obtain rfl : p = q := Prod.ext e1 e2
      congr 1
      refine ih a3 b3 fun i => ?_
      have k := key i
      by_cases hi : p.1 ≤ i ∧ i ≤ p.2
      · rw [Ris.low a3 (by omega), Ris.low b3 (by omega)]
      · rw [decide_eq_false hi, Bool.false_or, Bool.false_or] at k
        exact k

/-! ### the runs of weeks -/
/-- the last one of the run that i stands in -/
def enF (w : Nat) : Nat → Nat → Nat
  | 0, k => k
  | f + 1, k => if k + 1 < 20 ∧ w.testBit (k + 1) = true then enF w f (k + 1) else k
theorem enF_spec (w f k : Nat) (hf : 20 ≤ f + k + 1) (hk : k < 20) : k ≤ enF w f k ∧ enF w f k < 20 ∧ (∀ j, k < j → j ≤ enF w f k → w.testBit j = true) ∧ (enF w f k + 1 < 20 → w.testBit (enF w f k + 1) = false) := by
  induction f generalizing k with
  | zero =>
    rw [enF]
    exact ⟨Nat.le_refl _, hk, fun j h1 h2 => absurd h1 (by omega), fun h => absurd h (by omega)⟩
  | succ f ih =>
    rw [enF]
    split
    · rename_i h
      obtain ⟨i1, i2, i3, i4⟩ := ih (k + 1) (by omega) h.1
      refine ⟨by omega, i2, fun j h1 h2 => ?_, i4⟩
      rcases Nat.lt_or_ge (k + 1) j with hj | hj
      · exact i3 j hj h2
      · obtain rfl : j = k + 1 := by omega
        exact h.2
    · rename_i h
      refine ⟨Nat.le_refl _, hk, fun j h1 h2 => absurd h1 (by omega), fun h1 => ?_⟩
      cases hb : w.testBit (k + 1) with
      | false => rfl
      | true => exact absurd ⟨h1, hb⟩ h
def en (w k : Nat) : Nat := enF w 20 k
/-- does a run begin here? -/
def beg (w i : Nat) : Bool := w.testBit i && !(decide (0 < i) && w.testBit (i - 1))
/-- the runs that begin below i -/
def runs (w : Nat) : Nat → List (Nat × Nat)
  | 0 => []
  | i + 1 => runs w i ++ (if beg w i = true then [(i + 1, en w i + 1)] else [])
theorem has_append (a b : List (Nat × Nat)) (i : Nat) : has (a ++ b) i = (has a i || has b i) := by unfold has; rw [List.any_append]
/-- runs that rise, and one more behind them -/
theorem Ris.snoc {m : Nat} {l : List (Nat × Nat)} (h : Ris m l) {p : Nat × Nat} (hp : p.1 ≤ p.2) (hm : m ≤ p.1) (hl : ∀ q ∈ l, q.2 + 2 ≤ p.1) : Ris m (l ++ [p]) := by
  induction l generalizing m with
  | nil => exact ⟨hm, hp, trivial⟩
  | cons q l ih =>
    obtain ⟨h1, h2, h3⟩ := h
    exact ⟨h1, h2, ih h3 (hl q (List.mem_cons_self ..)) (fun r hr => hl r (List.mem_cons_of_mem _ hr))⟩
/-- what is so of the runs that begin below i: they rise, have the weeks of these, and end where a week is not -/
theorem runs_spec (w i : Nat) (hi : i ≤ 20) : Ris 1 (runs w i) ∧ (∀ q ∈ runs w i, q.1 ≤ i ∧ q.2 ≤ 20 ∧ (q.2 < 20 → w.testBit q.2 = false) ∧ (∀ j, q.1 ≤ j + 1 → j + 1 ≤ q.2 → w.testBit j = true)) ∧ (∀ j, j < i → w.testBit j = true → has (runs w i) (j + 1) = true) := by
  induction i with
  | zero => exact ⟨trivial, fun q hq => (by cases hq), fun j h => absurd h (by omega)⟩
  | succ i ih =>
    obtain ⟨h1, h2, h3⟩ := ih (by omega)
    rw [runs]
    cases hb : beg w i with
    | false =>
      rw [if_neg (by decide), List.append_nil]
      refine ⟨h1, fun q hq => ⟨by have := (h2 q hq).1; omega, (h2 q hq).2⟩, fun j hj hw => ?_⟩
      rcases Nat.lt_or_ge j i with h | h
      · exact h3 j h hw
      · obtain rfl : j = i := by omega
        unfold beg at hb
        rw [hw, Bool.true_and, Bool.not_eq_false', Bool.and_eq_true, decide_eq_true_iff] at hb
        obtain ⟨k, rfl⟩ : ∃ k, j = k + 1 := ⟨j - 1, by omega⟩
        have hk := h3 k (by omega) hb.2
        rw [has_iff] at hk ⊢
        obtain ⟨q, hq, hq1, hq2⟩ := hk
        refine ⟨q, hq, by omega, ?_⟩
        obtain ⟨_, q3, q4, _⟩ := h2 q hq
        rcases Nat.lt_or_ge q.2 (k + 1 + 1) with hlt | hge
        · obtain e : q.2 = k + 1 := by omega
          have := q4 (by omega)
          rw [e, hw] at this
          cases this
        · exact hge
    | true =>
      rw [if_pos rfl]
      unfold beg at hb
      rw [Bool.and_eq_true, Bool.not_eq_true'] at hb
      obtain ⟨hb1, hb2⟩ := hb
      obtain ⟨e1, e2, e3, e4⟩ := enF_spec w 20 i (by omega) (by omega)
      change i ≤ en w i at e1
      change en w i < 20 at e2
      change ∀ j, i < j → j ≤ en w i → w.testBit j = true at e3
      change en w i + 1 < 20 → w.testBit (en w i + 1) = false at e4
      refine ⟨Ris.snoc h1 (by show i + 1 ≤ en w i + 1; omega) (by show 1 ≤ i + 1; omega) (fun q hq => ?_), fun q hq => ?_, fun j hj hw => ?_⟩
      · show q.2 + 2 ≤ i + 1
        obtain ⟨q1, q2, q3, q4⟩ := h2 q hq
        apply Classical.byContradiction
        intro hn
        have hq1 : 1 ≤ q.1 := by
          rcases Nat.eq_zero_or_pos q.1 with h0 | h0
          · have := Ris.low h1 (i := 0) (by omega)
            have hh : has (runs w i) 0 = true := (has_iff _ _).2 ⟨q, hq, by omega, by omega⟩
            rw [this] at hh
            cases hh
          · exact h0
        rcases Nat.lt_or_ge q.2 (i + 1) with hlt | hge
        · -- it ends just ahead of i
          have hqi : q.2 = i := by omega
          have := q3 (by omega)
          rw [hqi, hb1] at this
          cases this
        · have := q4 (i - 1) (by omega) (by omega)
          rw [decide_eq_true (show 0 < i by omega), Bool.true_and, this] at hb2
          cases hb2
      · rcases List.mem_append.1 hq with h | h
        · exact ⟨by have := (h2 q h).1; omega, (h2 q h).2⟩
        · rw [List.mem_singleton] at h
          subst h
          refine ⟨Nat.le_refl _, by show en w i + 1 ≤ 20; omega, fun h => e4 h, fun j j1 j2 => ?_⟩
          have j1 : i + 1 ≤ j + 1 := j1
          have j2 : j + 1 ≤ en w i + 1 := j2
          rcases Nat.lt_or_ge i j with h | h
          · exact e3 j h (by omega)
          · obtain rfl : j = i := by omega
            exact hb1
      · rw [has_append, Bool.or_eq_true]
        rcases Nat.lt_or_ge j i with h | h
        · exact .inl (h3 j h hw)
        · obtain rfl : j = i := by omega
          refine .inr ((has_iff _ _).2 ⟨_, List.mem_singleton.2 rfl, Nat.le_refl _, ?_⟩)
          show j + 1 ≤ en w j + 1
          omega
theorem runs_whole (w : Nat) : ∃ R, runs w 20 = R ∧ (Ris 1 R ∧ (∀ q ∈ R, q.1 ≤ 20 ∧ q.2 ≤ 20 ∧ (q.2 < 20 → w.testBit q.2 = false) ∧ (∀ j, q.1 ≤ j + 1 → j + 1 ≤ q.2 → w.testBit j = true)) ∧ (∀ j, j < 20 → w.testBit j = true → has R (j + 1) = true)) := ⟨_, rfl, runs_spec w 20 (Nat.le_refl _)⟩
/-- all runs of weeks -/
noncomputable def wr (w : Nat) : List (Nat × Nat) := Classical.choose (runs_whole w)
theorem wr_eq (w : Nat) : runs w 20 = wr w := (Classical.choose_spec (runs_whole w)).1
theorem wr_spec (w : Nat) : Ris 1 (wr w) ∧ (∀ q ∈ wr w, q.1 ≤ 20 ∧ q.2 ≤ 20 ∧ (q.2 < 20 → w.testBit q.2 = false) ∧ (∀ j, q.1 ≤ j + 1 → j + 1 ≤ q.2 → w.testBit j = true)) ∧ (∀ j, j < 20 → w.testBit j = true → has (wr w) (j + 1) = true) := (Classical.choose_spec (runs_whole w)).2
/-- the runs of weeks below 2^20 have just its weeks -/
theorem wr_has (w i : Nat) (hw : w < 2 ^ 20) : has (wr w) i = (decide (1 ≤ i) && w.testBit (i - 1)) := by
  obtain ⟨h1, h2, h3⟩ := wr_spec w
  generalize wr w = R at *
  rw [Bool.eq_iff_iff, Bool.and_eq_true, decide_eq_true_iff]
  constructor
  · intro h
    obtain ⟨q, hq, q1, q2⟩ := (has_iff _ _).1 h
    have hp : 1 ≤ i := by
      rcases Nat.eq_zero_or_pos i with h0 | h0
      · rw [Ris.low h1 (by omega)] at h
        cases h
      · exact h0
    exact ⟨hp, (h2 q hq).2.2.2 (i - 1) (by omega) (by omega)⟩
  · rintro ⟨hp, hb⟩
    have hlt : i - 1 < 20 := by
      rcases Nat.lt_or_ge (i - 1) 20 with h | h
      · exact h
      · rw [Nat.testBit_lt_two_pow (Nat.lt_of_lt_of_le hw (Nat.pow_le_pow_right (by decide) h))] at hb
        cases hb
    have := h3 (i - 1) hlt hb
    rwa [show i - 1 + 1 = i by omega] at this
end Go.Proofs.YtfnjnkmdifigdaaDoor.Clk
