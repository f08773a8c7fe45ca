/- Mathematics of layer 10 (clock): texts of weeks, and what is read of them. Nothing of a program is spoken of here. -/
import Derived.Test.YtfnjnkmdifigdaaDoorClkM
namespace Go.Proofs.YtfnjnkmdifigdaaDoor.Clk

/-! ### what is cut, and put together -/
theorem cut_inter (c : UInt8) (l : List (List UInt8)) (h : l ≠ []) (hc : ∀ t ∈ l, c ∉ t) : Wrd.cut c ([c].intercalate l) = l := by
  induction l with
  | nil => exact absurd rfl h
  | cons a b ih =>
    cases b with
    | nil =>
      rw [show [c].intercalate [a] = a by simp [List.intercalate]]
      exact Wrd.cut_one c a (hc a (List.mem_cons_self ..))
    | cons d e =>
      rw [Wrd.inter_cons, List.append_assoc, List.singleton_append, Wrd.cut_append c a _ (hc a (List.mem_cons_self ..)), ih (by simp) (fun t ht => hc t (List.mem_cons_of_mem _ ht))]
theorem inter_cut (c : UInt8) (s : List UInt8) : [c].intercalate (Wrd.cut c s) = s := by
  induction s with
  | nil => simp [Wrd.cut, List.intercalate]
  | cons x r ih =>
    unfold Wrd.cut
    split
    · rename_i h
      subst h
      cases hc : Wrd.cut x r with
      | nil => exact absurd hc (Wrd.cut_ne x r)
      | cons a b =>
        rw [Wrd.inter_cons, ← hc, ih]
        rfl
    · cases hc : Wrd.cut c r with
      | nil => exact absurd hc (Wrd.cut_ne c r)
      | cons a b =>
        rw [hc] at ih
        cases b with
        | nil => simp [List.intercalate] at ih ⊢; exact ih
        | cons d e =>
          rw [Wrd.inter_cons] at ih ⊢
          simp only [List.cons_append] at ih ⊢
          rw [ih]
theorem cut_free (c : UInt8) (s t : List UInt8) (h : t ∈ Wrd.cut c s) : c ∉ t := by
  induction s generalizing t with
  | nil => simp [Wrd.cut] at h; subst h; simp
  | cons x r ih =>
    unfold Wrd.cut at h
    split at h
    · rcases List.mem_cons.1 h with rfl | h
      · simp
      · exact ih t h
    · rename_i hx
      cases hc : Wrd.cut c r with
      | nil => exact absurd hc (Wrd.cut_ne c r)
      | cons a b =>
        rw [hc] at h ih
        rcases List.mem_cons.1 h with rfl | h
        · intro hm
          rcases List.mem_cons.1 hm with e | hm
          · exact hx e.symm
          · exact ih a (List.mem_cons_self ..) hm
        · exact ih t (List.mem_cons_of_mem _ h)

/-! ### numbers of one or two digits -/
def num (s : List UInt8) : Option Nat := if Dig.formed s = true ∧ s.length ≤ 2 then some (Dig.val s) else none
theorem num_wd {n : Nat} (h : n < 100) : num (Dig.wd n) = some n := by
  unfold num
  have hl : (Dig.wd n).length ≤ 2 := by
    rcases Nat.lt_or_ge n 10 with h1 | h1
    · rw [Dig.wd_len_small n h1]; omega
    · rw [Dig.wd_len_step n (by omega) h1, Dig.wd_len_small _ (by omega)]
      exact Nat.le_refl _
  rw [if_pos ⟨Dig.wd_formed n (by omega), hl⟩, Dig.wd_val n (by omega)]
theorem num_back {s : List UInt8} {n : Nat} (h : num s = some n) : Dig.wd n = s ∧ n < 100 := by
  unfold num at h
  split at h
  · rename_i hf
    injection h with h
    subst h
    refine ⟨Dig.wd_of_formed s hf.1 (by omega), ?_⟩
    have hv := Dig.val_lt_pow s ((Dig.formed_iff s).1 hf.1).1
    have : 10 ^ s.length ≤ 10 ^ 2 := Nat.pow_le_pow_right (by decide) hf.2
    omega
  · cases h
theorem wd_free {n : Nat} {c : UInt8} (hc : Dig.isD c = false) : c ∉ Dig.wd n := fun h => by
  have := List.all_eq_true.1 (Dig.wd_all n) c h
  rw [hc] at this
  cases this
theorem wd_ne (n : Nat) : Dig.wd n ≠ [] := fun e => by
  have := Dig.wd_len_pos n
  rw [e] at this
  simp at this

/-! ### runs of a text -/
/-- the parts of a run: its first and its last number -/
def rp (s : List UInt8) : Option (Nat × Nat) :=
  match Wrd.cut 45 s with
  | [a] => match num a with
    | some n => some (n, n)
    | none => none
  | [a, b] => match num a, num b with
    | some n, some m => if n < m then some (n, m) else none
    | _, _ => none
  | _ => none
theorem rp_rt {p : Nat × Nat} (h1 : p.1 ≤ p.2) (h2 : p.2 < 100) : rp (rt p) = some p := by
  have hf : ∀ n, (45 : UInt8) ∉ Dig.wd n := fun n => wd_free (by decide)
  unfold rp rt
  by_cases h : p.1 < p.2
  · rw [if_pos h, Wrd.cut_append 45 _ _ (hf _), Wrd.cut_one 45 _ (hf _)]
    simp only [num_wd (show p.1 < 100 by omega), num_wd h2, if_pos h]
  · rw [if_neg h, Wrd.cut_one 45 _ (hf _)]
    simp only [num_wd (show p.1 < 100 by omega)]
    rw [show (p.1, p.1) = p from Prod.ext rfl (show p.1 = p.2 by omega)]
theorem rp_back {s : List UInt8} {p : Nat × Nat} (h : rp s = some p) : rt p = s ∧ p.1 ≤ p.2 ∧ p.2 < 100 := by
  have hi := inter_cut 45 s
  unfold rp at h
  split at h
  · rename_i a hc
    rw [hc] at hi
    split at h
    · rename_i n hn
      injection h with h
      subst h
      obtain ⟨b1, b2⟩ := num_back hn
      refine ⟨?_, Nat.le_refl _, b2⟩
      unfold rt
      rw [if_neg (Nat.lt_irrefl _)]
      rw [← hi, b1]
      simp [List.intercalate]
    · cases h
  · rename_i a b hc
    rw [hc] at hi
    split at h
    · rename_i n m hn hm
      split at h
      · rename_i hlt
        injection h with h
        subst h
        obtain ⟨b1, b2⟩ := num_back hn
        obtain ⟨c1, c2⟩ := num_back hm
        refine ⟨?_, Nat.le_of_lt hlt, c2⟩
        unfold rt
        rw [if_pos hlt]
        rw [← hi, b1, c1]
        simp [List.intercalate]
      · cases h
    · cases h
  · cases h
theorem rt_free {p : Nat × Nat} {c : UInt8} (hc : Dig.isD c = false) (h : c ≠ 45) : c ∉ rt p := by
  unfold rt
  split
  · intro hm
    rcases List.mem_append.1 hm with hm | hm
    · exact wd_free hc hm
    · rcases List.mem_cons.1 hm with hm | hm
      · exact h hm
      · exact wd_free hc hm
  · exact wd_free hc
theorem rt_ne (p : Nat × Nat) : rt p ≠ [] := by
  unfold rt
  split
  · intro e
    have := congrArg List.length e
    simp at this
  · exact wd_ne _

/-! ### rows of runs -/
def rps : List (List UInt8) → Option (List (Nat × Nat))
  | [] => some []
  | s :: r => match rp s, rps r with
    | some p, some l => some (p :: l)
    | _, _ => none
theorem rps_rt (l : List (Nat × Nat)) (h : ∀ p ∈ l, p.1 ≤ p.2 ∧ p.2 < 100) : rps (l.map rt) = some l := by
  induction l with
  | nil => rfl
  | cons p l ih =>
    have hp := h p (List.mem_cons_self ..)
    rw [List.map_cons, rps, rp_rt hp.1 hp.2, ih (fun q hq => h q (List.mem_cons_of_mem _ hq))]
theorem rps_back {r : List (List UInt8)} {l : List (Nat × Nat)} (h : rps r = some l) : l.map rt = r ∧ ∀ p ∈ l, p.1 ≤ p.2 ∧ p.2 < 100 := by
  induction r generalizing l with
  | nil =>
    rw [rps] at h
    injection h with h
    subst h
    exact ⟨rfl, fun p hp => (by cases hp)⟩
  | cons s r ih =>
    rw [rps] at h
    split at h
    · rename_i p l' hp hl
      injection h with h
      subst h
      obtain ⟨b1, b2, b3⟩ := rp_back hp
      obtain ⟨i1, i2⟩ := ih hl
      refine ⟨by rw [List.map_cons, b1, i1], fun q hq => ?_⟩
      rcases List.mem_cons.1 hq with rfl | hq
      · exact ⟨b2, b3⟩
      · exact i2 q hq
    · cases h
/-- the runs of a text, if it is a row of them that rise and do not touch -/
def risb : Nat → List (Nat × Nat) → Bool
  | _, [] => true
  | m, p :: l => decide (m ≤ p.1) && risb (p.2 + 2) l
def rows (s : List UInt8) : Option (List (Nat × Nat)) :=
  match rps (Wrd.cut 44 s) with
  | some l => if risb 0 l = true then some l else none
  | none => none
theorem ris_iff (m : Nat) (l : List (Nat × Nat)) (h : ∀ p ∈ l, p.1 ≤ p.2) : risb m l = true ↔ Ris m l := by
  induction l generalizing m with
  | nil => exact ⟨fun _ => trivial, fun _ => rfl⟩
  | cons p l ih =>
    rw [risb, Bool.and_eq_true, decide_eq_true_iff, ih _ (fun q hq => h q (List.mem_cons_of_mem _ hq))]
    exact ⟨fun ⟨a, b⟩ => ⟨a, h p (List.mem_cons_self ..), b⟩, fun ⟨a, _, b⟩ => ⟨a, b⟩⟩
theorem Ris.le {m : Nat} {l : List (Nat × Nat)} (h : Ris m l) : ∀ p ∈ l, p.1 ≤ p.2 := by
  induction l generalizing m with
  | nil => exact fun p hp => (by cases hp)
  | cons q l ih =>
    obtain ⟨_, h2, h3⟩ := h
    intro p hp
    rcases List.mem_cons.1 hp with rfl | hp
    · exact h2
    · exact ih h3 p hp
theorem rows_wt {l : List (Nat × Nat)} (hne : l ≠ []) (hr : Ris 0 l) (h : ∀ p ∈ l, p.2 < 100) : rows (wt l) = some l := by
  have hle := hr.le
  unfold rows wt
  rw [cut_inter 44 _ (by simpa using hne) (fun t ht => by
    obtain ⟨p, _, rfl⟩ := List.mem_map.1 ht
    exact rt_free (by decide) (by decide)), rps_rt l (fun p hp => ⟨hle p hp, h p hp⟩)]
  simp only [if_pos ((ris_iff 0 l hle).2 hr)]
theorem rows_back {s : List UInt8} {l : List (Nat × Nat)} (h : rows s = some l) : wt l = s ∧ l ≠ [] ∧ Ris 0 l ∧ ∀ p ∈ l, p.2 < 100 := by
  have hi := inter_cut 44 s
  unfold rows at h
  split at h
  · rename_i l' hl
    split at h
    · rename_i hr
      injection h with h
      subst h
      obtain ⟨i1, i2⟩ := rps_back hl
      refine ⟨by unfold wt; rw [i1, hi], fun e => ?_, (ris_iff 0 _ (fun p hp => (i2 p hp).1)).1 hr, fun p hp => (i2 p hp).2⟩
      rw [e] at i1
      exact Wrd.cut_ne 44 s i1.symm
    · cases h
  · cases h

/-! ### weeks of a row -/
def msk (f : Nat → Bool) : Nat → Nat
  | 0 => 0
  | k + 1 => msk f k + (if f k = true then 2 ^ k else 0)
theorem msk_lt (f : Nat → Bool) (k : Nat) : msk f k < 2 ^ k := by
  induction k with
  | zero => exact Nat.one_pos
  | succ k ih =>
    rw [msk, Nat.pow_succ]
    split <;> omega
theorem msk_bit (f : Nat → Bool) (k j : Nat) : (msk f k).testBit j = (decide (j < k) && f j) := by
  induction k with
  | zero => rw [msk, Nat.zero_testBit, decide_eq_false (by omega), Bool.false_and]
  | succ k ih =>
    have hl := msk_lt f k
    rw [msk]
    cases hf : f k with
    | false =>
      rw [if_neg (by decide), Nat.add_zero, ih]
      by_cases hj : j = k
      · subst hj
        rw [hf, Bool.and_false, Bool.and_false]
      · rw [decide_eq_decide.2 (show j < k ↔ j < k + 1 by omega)]
    | true =>
      rw [if_pos rfl, Nat.add_comm, show 2 ^ k = 2 ^ k * 1 by rw [Nat.mul_one], Nat.testBit_two_pow_mul_add 1 hl]
      by_cases hj : j < k
      · rw [if_pos hj, ih, decide_eq_true hj, decide_eq_true (show j < k + 1 by omega)]
      · rw [if_neg hj]
        by_cases he : j = k
        · subst he
          rw [Nat.sub_self, hf, decide_eq_true (show j < j + 1 by omega)]
          decide
        · rw [decide_eq_false (show ¬ j < k + 1 by omega), Bool.false_and]
          exact Nat.testBit_lt_two_pow (Nat.one_lt_two_pow (by omega))
/-- the weeks of runs -/
def wof (l : List (Nat × Nat)) : Nat := msk (fun j => has l (j + 1)) 20
theorem wof_wr (w : Nat) (hw : w < 2 ^ 20) : wof (wr w) = w := by
  refine Nat.eq_of_testBit_eq fun j => ?_
  unfold wof
  rw [msk_bit, wr_has w (j + 1) hw, Nat.add_sub_cancel, decide_eq_true (show 1 ≤ j + 1 by omega), Bool.true_and]
  by_cases hj : j < 20
  · rw [decide_eq_true hj, Bool.true_and]
  · rw [decide_eq_false hj, Bool.false_and, Nat.testBit_lt_two_pow (Nat.lt_of_lt_of_le hw (Nat.pow_le_pow_right (by decide) (by omega)))]
theorem wr_wof {l : List (Nat × Nat)} (hr : Ris 1 l) (h : ∀ p ∈ l, p.2 ≤ 20) : wr (wof l) = l := by
  refine ris_ext (wr_spec (wof l)).1 hr fun i => ?_
  rw [wr_has _ i (by unfold wof; exact msk_lt _ 20)]
  unfold wof
  rw [msk_bit]
  rcases Nat.eq_zero_or_pos i with h0 | h0
  · subst h0
    have hz := Ris.low hr (i := 0) (by omega)
    rw [decide_eq_false (show ¬ 1 ≤ 0 by omega), Bool.false_and, hz]
  · rw [decide_eq_true (show 1 ≤ i by omega), Bool.true_and]
    show (decide (i - 1 < 20) && has l (i - 1 + 1)) = has l i
    rw [show i - 1 + 1 = i by omega]
    cases hb : has l i with
    | false => rw [Bool.and_false]
    | true =>
      obtain ⟨p, hp, p1, p2⟩ := (has_iff _ _).1 hb
      have := h p hp
      rw [decide_eq_true (by omega)]
      rfl
/-- the text of weeks (of the lower twenty bits) -/
noncomputable def wk (w : Nat) : List UInt8 := wt (wr (w % 2 ^ 20))
/-- what is read of a text: weeks, and an error's number -/
def pwk (s : List UInt8) : Nat × Nat :=
  match rows s with
  | some l => if l.all (fun p => decide (1 ≤ p.1 ∧ p.2 ≤ 20)) = true then (wof l, 0) else (0, 6)
  | none => (0, 3)
theorem wr_ne {w : Nat} (h0 : w ≠ 0) (hw : w < 2 ^ 20) : wr w ≠ [] := fun e => by
  have := wof_wr w hw
  rw [e] at this
  exact h0 (this.symm.trans (by decide +kernel))
/-- weeks come back from their text -/
theorem pwk_wk {w : Nat} (h0 : w ≠ 0) (hw : w < 2 ^ 20) : pwk (wk w) = (w, 0) := by
  obtain ⟨s1, s2, _⟩ := wr_spec w
  unfold pwk wk
  rw [Nat.mod_eq_of_lt hw, rows_wt (wr_ne h0 hw) (s1.mono (Nat.zero_le _)) (fun p hp => by have := (s2 p hp).2.1; omega)]
  have hall : (wr w).all (fun p => decide (1 ≤ p.1 ∧ p.2 ≤ 20)) = true := by
    rw [List.all_eq_true]
    intro p hp
    rw [decide_eq_true_iff]
    refine ⟨?_, (s2 p hp).2.1⟩
    apply Classical.byContradiction
    intro hn
    have hz : has (wr w) 0 = true := (has_iff _ _).2 ⟨p, hp, by omega, by omega⟩
    rw [Ris.low s1 (by omega)] at hz
    cases hz
  simp only [if_pos hall]
  rw [wof_wr w hw]
/-- a text that is read is the one that is written -/
theorem wk_pwk {s : List UInt8} (h : (pwk s).2 = 0) : wk (pwk s).1 = s ∧ (pwk s).1 ≠ 0 ∧ (pwk s).1 < 2 ^ 20 := by
  unfold pwk at h ⊢
  cases hr : rows s with
  | none => rw [hr] at h; cases h
  | some l =>
    rw [hr] at h
    obtain ⟨b1, b2, b3, b4⟩ := rows_back hr
    simp only at h ⊢
    by_cases ha : l.all (fun p => decide (1 ≤ p.1 ∧ p.2 ≤ 20)) = true
    · rw [if_pos ha]
      have hb := List.all_eq_true.1 ha
      have hr1 : Ris 1 l := by
        cases l with
        | nil => trivial
        | cons p l =>
          have := of_decide_eq_true (hb p (List.mem_cons_self ..))
          exact ⟨this.1, b3.2.1, b3.2.2⟩
      have hlt : wof l < 2 ^ 20 := msk_lt _ 20
      have hw := wr_wof hr1 (fun p hp => (of_decide_eq_true (hb p hp)).2)
      refine ⟨?_, fun e => ?_, hlt⟩
      · show wt (wr (wof l % 2 ^ 20)) = s
        rw [Nat.mod_eq_of_lt hlt, hw, b1]
      · have e0 : wof l = 0 := e
        cases l with
        | nil => exact b2 rfl
        | cons p l =>
          obtain ⟨p1, p2⟩ := of_decide_eq_true (hb p (List.mem_cons_self ..))
          have hle := b3.2.1
          have hbit : (wof (p :: l)).testBit (p.1 - 1) = true := by
            unfold wof
            rw [msk_bit, decide_eq_true (show p.1 - 1 < 20 by omega), Bool.true_and, has_cons, decide_eq_true (by omega)]
            rfl
          rw [e0, Nat.zero_testBit] at hbit
          cases hbit
    · rw [if_neg ha] at h
      cases h
end Go.Proofs.YtfnjnkmdifigdaaDoor.Clk
