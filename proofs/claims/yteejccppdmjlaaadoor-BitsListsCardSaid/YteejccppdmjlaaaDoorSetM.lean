/- Mathematics of layer 5 (bits): sets of numbers as rows of words. Nothing of a program is spoken of here. -/
namespace Go.Proofs.YteejccppdmjlaaaDoor.Bst

/-- is the number i in the row of words? -/
def mem (s : List Nat) (i : Nat) : Bool := (s.getD (i / 64) 0).testBit (i % 64)
def memI (s : List Nat) (i : Int) : Bool := decide (0 ≤ i) && mem s i.toNat
def Ok (s : List Nat) : Prop := ∀ x ∈ s, x < 18446744073709551616
def Short (s : List Nat) : Prop := s.getLast? ≠ some 0

theorem Ok.getD {s : List Nat} (h : Ok s) (k : Nat) : s.getD k 0 < 18446744073709551616 := by
  rw [List.getD_eq_getElem?_getD]
  cases hk : s[k]? with
  | none => decide
  | some x => exact h x (List.mem_of_getElem? hk)
theorem mem_ge {s : List Nat} {i : Nat} (h : 64 * s.length ≤ i) : mem s i = false := by
  unfold mem
  rw [List.getD_eq_getElem?_getD, List.getElem?_eq_none (by omega)]
  exact Nat.zero_testBit _
theorem mem_lt {s : List Nat} {i : Nat} (h : mem s i = true) : i < 64 * s.length := by
  rcases Nat.lt_or_ge i (64 * s.length) with h1 | h1
  · exact h1
  · rw [mem_ge h1] at h; cases h
theorem mem_at (s : List Nat) (k j : Nat) (hj : j < 64) : mem s (64 * k + j) = (s.getD k 0).testBit j := by
  unfold mem
  rw [show (64 * k + j) / 64 = k by omega, show (64 * k + j) % 64 = j by omega]
theorem words_eq {a b : List Nat} (ha : Ok a) (hb : Ok b) (h : ∀ i, mem a i = mem b i) (k : Nat) : a.getD k 0 = b.getD k 0 := by
  apply Nat.eq_of_testBit_eq
  intro j
  rcases Nat.lt_or_ge j 64 with hj | hj
  · have := h (64 * k + j)
    rwa [mem_at _ _ _ hj, mem_at _ _ _ hj] at this
  · have e : (18446744073709551616 : Nat) = 2 ^ 64 := by decide
    have h1 : ∀ s : List Nat, Ok s → (s.getD k 0).testBit j = false := fun s hs =>
      Nat.testBit_lt_two_pow (Nat.lt_of_lt_of_le (e ▸ hs.getD k) (Nat.pow_le_pow_right (by decide) hj))
    rw [h1 a ha, h1 b hb]
theorem Short.last {s : List Nat} (h : Short s) (hn : s ≠ []) : s.getD (s.length - 1) 0 ≠ 0 := by
  intro e
  apply h
  rw [List.getLast?_eq_getElem?, ← Option.some_inj.2 e, List.getD_eq_getElem?_getD]
  have : s.length - 1 < s.length := by have := List.length_pos_iff.2 hn; omega
  rw [List.getElem?_eq_getElem this]
  rfl
/-- of short rows with the same numbers there is one -/
theorem ext {a b : List Nat} (ha : Ok a) (hb : Ok b) (sa : Short a) (sb : Short b) (h : ∀ i, mem a i = mem b i) : a = b := by
  have hw := words_eq ha hb h
  have hle : ∀ {a b : List Nat}, Short a → (∀ k, a.getD k 0 = b.getD k 0) → a.length ≤ b.length := by
    intro a b sa hw
    rcases Nat.lt_or_ge b.length a.length with hlt | hge
    · exfalso
      have hn : a ≠ [] := by intro e; subst e; simp at hlt
      apply sa.last hn
      rw [hw, List.getD_eq_getElem?_getD, List.getElem?_eq_none (by omega)]
      rfl
    · exact hge
  have hl : a.length = b.length := Nat.le_antisymm (hle sa hw) (hle sb fun k => (hw k).symm)
  apply List.ext_getElem hl
  intro k h1 h2
  have := hw k
  rw [List.getD_eq_getElem?_getD, List.getD_eq_getElem?_getD, List.getElem?_eq_getElem h1, List.getElem?_eq_getElem h2] at this
  exact this
/-- a short row is as long as its numbers need -/
theorem short_len {s : List Nat} (sa : Short s) (ho : Ok s) (n : Nat) (h : ∀ i, mem s i = true → i < 64 * n) : s.length ≤ n := by
  rcases Nat.lt_or_ge n s.length with hlt | hge
  · exfalso
    have hn : s ≠ [] := by intro e; subst e; simp at hlt
    have hz := sa.last hn
    obtain ⟨j, hj⟩ := Nat.exists_testBit_of_ne_zero hz
    have hj64 : j < 64 := by
      rcases Nat.lt_or_ge j 64 with h1 | h1
      · exact h1
      · have e : (18446744073709551616 : Nat) = 2 ^ 64 := by decide
        rw [Nat.testBit_lt_two_pow (Nat.lt_of_lt_of_le (e ▸ ho.getD _) (Nat.pow_le_pow_right (by decide) h1))] at hj
        cases hj
    have := h (64 * (s.length - 1) + j) (by rw [mem_at _ _ _ hj64]; exact hj)
    omega
  · exact hge
theorem short_nil : Short [] := by simp [Short]
theorem ok_nil : Ok [] := fun _ h => by cases h
theorem mem_nil (i : Nat) : mem [] i = false := mem_ge (by simp)
theorem nil_of {s : List Nat} (ho : Ok s) (sa : Short s) (h : ∀ i, mem s i = false) : s = [] := ext ho ok_nil sa short_nil fun i => by rw [h, mem_nil]

/-! ### the numbers, rising -/
def lst (s : List Nat) : List Nat := (List.range (64 * s.length)).filter (mem s)
theorem mem_lst (s : List Nat) (i : Nat) : i ∈ lst s ↔ mem s i = true := by
  unfold lst
  rw [List.mem_filter, List.mem_range]
  exact ⟨fun h => h.2, fun h => ⟨mem_lt h, h⟩⟩
/-- so many numbers are looked at: these have come -/
def upto (s : List Nat) (n : Nat) : List Nat := (List.range n).filter (mem s)
theorem upto_zero (s : List Nat) : upto s 0 = [] := rfl
theorem upto_succ (s : List Nat) (n : Nat) : upto s (n + 1) = upto s n ++ if mem s n = true then [n] else [] := by
  unfold upto
  rw [List.range_succ, List.filter_append]
  congr 1
  by_cases h : mem s n = true
  · rw [if_pos h, List.filter_cons_of_pos h]; rfl
  · rw [if_neg h, List.filter_cons_of_neg h]; rfl
theorem upto_more (s : List Nat) (n : Nat) (h : 64 * s.length ≤ n) : upto s n = lst s := by
  obtain ⟨k, rfl⟩ : ∃ k, n = 64 * s.length + k := ⟨n - 64 * s.length, by omega⟩
  clear h
  induction k with
  | zero => rfl
  | succ k ih => rw [← Nat.add_assoc, upto_succ, ih, if_neg (by rw [mem_ge (by omega)]; decide), List.append_nil]
theorem upto_len (s : List Nat) (n : Nat) : (upto s n).length ≤ n := by
  unfold upto
  have := List.length_filter_le (mem s) (List.range n)
  rwa [List.length_range] at this
theorem lst_upto (s : List Nat) (n : Nat) (h : n ≤ 64 * s.length) : ∃ r, lst s = upto s n ++ r := by
  refine ⟨((List.range' n (64 * s.length - n)).filter (mem s)), ?_⟩
  unfold lst upto
  rw [← List.filter_append]
  congr 1
  have e := @List.range'_append_1 0 n (64 * s.length - n)
  rw [Nat.zero_add, show n + (64 * s.length - n) = 64 * s.length by omega] at e
  rw [List.range_eq_range', List.range_eq_range', e]
theorem lst_same {a b : List Nat} (h : ∀ i, mem a i = mem b i) : lst a = lst b := by
  have e1 := upto_more a (64 * a.length + 64 * b.length) (by omega)
  have e2 := upto_more b (64 * a.length + 64 * b.length) (by omega)
  rw [← e1, ← e2]
  unfold upto
  congr 1
  funext i
  exact h i
theorem lst_nil_iff (s : List Nat) : lst s = [] ↔ ∀ i, mem s i = false := by
  constructor
  · intro h i
    cases hm : mem s i with
    | false => rfl
    | true => rw [← mem_lst, h] at hm; cases hm
  · intro h
    rw [List.eq_nil_iff_forall_not_mem]
    intro i hi
    rw [mem_lst, h] at hi
    cases hi

/-! ### one number more -/
theorem top_lt {s : List Nat} {i : Nat} (h : ∀ j, mem s j = true → j < i) : s.getD (i / 64) 0 < 2 ^ (i % 64) ∨ ¬ Ok s := by
  by_cases ho : Ok s
  · refine .inl (Nat.lt_pow_two_of_testBit _ fun j hj => ?_)
    rcases Nat.lt_or_ge j 64 with h1 | h1
    · cases hm : (s.getD (i / 64) 0).testBit j with
      | false => rfl
      | true =>
        have := h (64 * (i / 64) + j) (by rw [mem_at _ _ _ h1]; exact hm)
        omega
    · have e : (18446744073709551616 : Nat) = 2 ^ 64 := by decide
      exact Nat.testBit_lt_two_pow (Nat.lt_of_lt_of_le (e ▸ ho.getD _) (Nat.pow_le_pow_right (by decide) h1))
  · exact .inr ho
theorem mem_set (L : List Nat) (k y i : Nat) (hk : k < L.length) : mem (L.set k y) i = if i / 64 = k then y.testBit (i % 64) else mem L i := by
  unfold mem
  rw [List.getD_eq_getElem?_getD, List.getElem?_set]
  by_cases h : i / 64 = k
  · rw [if_pos h.symm, if_pos h, if_pos (by omega)]
    rfl
  · rw [if_neg (fun e => h e.symm), if_neg h, List.getD_eq_getElem?_getD]
theorem Ok.set {L : List Nat} (h : Ok L) (k y : Nat) (hy : y < 18446744073709551616) : Ok (L.set k y) := by
  intro x hx
  rcases List.mem_or_eq_of_mem_set hx with hx | hx
  · exact h x hx
  · subst hx; exact hy
theorem mem_zeros (L : List Nat) (z i : Nat) : mem (L ++ List.replicate z 0) i = mem L i := by
  unfold mem
  rw [List.getD_eq_getElem?_getD, List.getD_eq_getElem?_getD, List.getElem?_append]
  split
  · rfl
  · rename_i h
    rw [List.getElem?_replicate, List.getElem?_eq_none (l := L) (by omega)]
    split <;> rfl
theorem Ok.zeros {L : List Nat} (h : Ok L) (z : Nat) : Ok (L ++ List.replicate z 0) := by
  intro x hx
  rcases List.mem_append.1 hx with hx | hx
  · exact h x hx
  · rw [(List.mem_replicate.1 hx).2]; decide
theorem testBit_top (x j i : Nat) (h : x < 2 ^ j) : (x + 2 ^ j).testBit i = (x.testBit i || decide (i = j)) := by
  have e := Nat.testBit_two_pow_mul_add (i := j) 1 h i
  rw [Nat.mul_one, Nat.add_comm] at e
  rw [e]
  rcases Nat.lt_trichotomy i j with hi | hi | hi
  · rw [if_pos hi, decide_eq_false (by omega), Bool.or_false]
  · subst hi
    rw [if_neg (by omega), decide_eq_true rfl, Bool.or_true, Nat.sub_self]
    rfl
  · rw [if_neg (by omega), decide_eq_false (by omega), Bool.or_false, Nat.testBit_lt_two_pow (Nat.lt_of_lt_of_le h (Nat.pow_le_pow_right (by decide) (by omega)))]
    exact Nat.testBit_lt_two_pow (by rw [show (1 : Nat) = 2 ^ 0 from rfl]; exact Nat.pow_lt_pow_right (by decide) (by omega))
/-- the number i is put into a row whose numbers are below it -/
theorem put_top {L : List Nat} {i : Nat} (ho : Ok L) (hl : L.length = i / 64 + 1) (h : ∀ j, mem L j = true → j < i) :
    L.getD (i / 64) 0 < 2 ^ (i % 64) ∧ L.getD (i / 64) 0 + 2 ^ (i % 64) < 18446744073709551616 ∧ Ok (L.set (i / 64) (L.getD (i / 64) 0 + 2 ^ (i % 64))) ∧ Short (L.set (i / 64) (L.getD (i / 64) 0 + 2 ^ (i % 64))) ∧ ∀ j, mem (L.set (i / 64) (L.getD (i / 64) 0 + 2 ^ (i % 64))) j = (mem L j || decide (j = i)) := by
  have hx : L.getD (i / 64) 0 < 2 ^ (i % 64) := (top_lt h).resolve_right (fun hn => hn ho)
  have hp : 2 ^ (i % 64) ≤ 2 ^ 63 := Nat.pow_le_pow_right (by decide) (by omega)
  have hy : L.getD (i / 64) 0 + 2 ^ (i % 64) < 18446744073709551616 := by omega
  refine ⟨hx, hy, ho.set _ _ hy, ?_, fun j => ?_⟩
  · unfold Short
    rw [List.getLast?_eq_getElem?, List.length_set, hl, Nat.add_sub_cancel, List.getElem?_set, if_pos rfl, if_pos (by omega)]
    have := Nat.pow_pos (a := 2) (n := i % 64) (by decide)
    intro e
    injection e with e
    omega
  · rw [mem_set _ _ _ _ (by omega)]
    by_cases hj : j / 64 = i / 64
    · rw [if_pos hj, testBit_top _ _ _ hx]
      unfold mem
      rw [hj]
      congr 1
      rw [decide_eq_decide]
      omega
    · rw [if_neg hj, decide_eq_false (by intro e; exact hj (by rw [e])), Bool.or_false]

/-! ### so many -/
theorem filter_two (l : List Nat) (p q : Nat → Bool) : (l.filter p).length + (l.filter q).length = (l.filter fun i => p i && q i).length + (l.filter fun i => p i || q i).length := by
  induction l with
  | nil => rfl
  | cons x r ih =>
    simp only [List.filter_cons]
    cases p x <;> cases q x <;> simp <;> omega
theorem count_two {a b c d : List Nat} (h1 : ∀ i, mem c i = (mem a i && mem b i)) (h2 : ∀ i, mem d i = (mem a i || mem b i)) : (lst a).length + (lst b).length = (lst c).length + (lst d).length := by
  have key := filter_two (List.range (64 * a.length + 64 * b.length + 64 * c.length + 64 * d.length)) (mem a) (mem b)
  rw [← upto_more a (64 * a.length + 64 * b.length + 64 * c.length + 64 * d.length) (by omega), ← upto_more b (64 * a.length + 64 * b.length + 64 * c.length + 64 * d.length) (by omega), ← upto_more c (64 * a.length + 64 * b.length + 64 * c.length + 64 * d.length) (by omega), ← upto_more d (64 * a.length + 64 * b.length + 64 * c.length + 64 * d.length) (by omega)]
  unfold upto
  rw [show mem c = fun i => mem a i && mem b i from funext h1, show mem d = fun i => mem a i || mem b i from funext h2]
  exact key

/-! ### words put together -/
def andNot (x y : Nat) : Nat := x ^^^ (x &&& y)
theorem testBit_andNot (x y i : Nat) : (andNot x y).testBit i = (x.testBit i && !y.testBit i) := by
  unfold andNot
  rw [Nat.testBit_xor, Nat.testBit_and]
  cases x.testBit i <;> cases y.testBit i <;> rfl
theorem and_lt {x y : Nat} (hx : x < 18446744073709551616) : x &&& y < 18446744073709551616 := Nat.lt_of_le_of_lt Nat.and_le_left hx
theorem or_lt {x y : Nat} (hx : x < 18446744073709551616) (hy : y < 18446744073709551616) : x ||| y < 18446744073709551616 := Nat.or_lt_two_pow (n := 64) hx hy
theorem andNot_lt {x y : Nat} (hx : x < 18446744073709551616) : andNot x y < 18446744073709551616 := Nat.xor_lt_two_pow (n := 64) hx (and_lt hx)
/-- word by word -/
theorem mem_words {L a b : List Nat} {f : Nat → Nat → Nat} {g : Bool → Bool → Bool} (hL : ∀ k, L.getD k 0 = f (a.getD k 0) (b.getD k 0)) (hf : ∀ x y i, (f x y).testBit i = g (x.testBit i) (y.testBit i)) (i : Nat) : mem L i = g (mem a i) (mem b i) := by
  unfold mem
  rw [hL, hf]
/-- the bit of i is set in its word; is taken out of it -/
theorem mem_put {L : List Nat} {i : Nat} (hi : i / 64 < L.length) (j : Nat) : mem (L.set (i / 64) (L.getD (i / 64) 0 ||| 2 ^ (i % 64))) j = (mem L j || decide (j = i)) := by
  rw [mem_set _ _ _ _ hi]
  by_cases hj : j / 64 = i / 64
  · rw [if_pos hj, Nat.testBit_or, Nat.testBit_two_pow]
    unfold mem
    rw [hj]
    congr 1
    rw [decide_eq_decide]
    omega
  · rw [if_neg hj, decide_eq_false (by intro e; exact hj (by rw [e])), Bool.or_false]
theorem mem_out {L : List Nat} {i : Nat} (hi : i / 64 < L.length) (j : Nat) : mem (L.set (i / 64) (andNot (L.getD (i / 64) 0) (2 ^ (i % 64)))) j = (mem L j && !decide (j = i)) := by
  rw [mem_set _ _ _ _ hi]
  by_cases hj : j / 64 = i / 64
  · rw [if_pos hj, testBit_andNot, Nat.testBit_two_pow]
    unfold mem
    rw [hj]
    congr 2
    rw [decide_eq_decide]
    omega
  · rw [if_neg hj, decide_eq_false (by intro e; exact hj (by rw [e])), Bool.not_false, Bool.and_true]
/-! ### without the last words that are 0 -/
theorem getD_take (L : List Nat) (k j : Nat) : (L.take k).getD j 0 = if j < k then L.getD j 0 else 0 := by
  rw [List.getD_eq_getElem?_getD, List.getElem?_take]
  by_cases h : j < k
  · rw [if_pos h, if_pos h, List.getD_eq_getElem?_getD]
  · rw [if_neg h, if_neg h]; rfl
theorem mem_trim {L : List Nat} {k : Nat} (h : ∀ j, k ≤ j → L.getD j 0 = 0) (i : Nat) : mem (L.take k) i = mem L i := by
  unfold mem
  rw [getD_take]
  by_cases hk : i / 64 < k
  · rw [if_pos hk]
  · rw [if_neg hk, h _ (by omega)]
theorem short_trim {L : List Nat} {k : Nat} (hk : k ≤ L.length) (h : k = 0 ∨ L.getD (k - 1) 0 ≠ 0) : Short (L.take k) := by
  rcases h with rfl | h
  · rw [List.take_zero]; exact short_nil
  · unfold Short
    rw [List.getLast?_eq_getElem?, List.length_take, Nat.min_eq_left hk]
    intro e
    apply h
    have := getD_take L k (k - 1)
    rw [List.getD_eq_getElem?_getD, e] at this
    by_cases h0 : k - 1 < k
    · rw [if_pos h0] at this; exact this.symm
    · obtain rfl : k = 0 := by omega
      rw [List.take_zero] at e
      cases e
theorem Ok.take {L : List Nat} (h : Ok L) (k : Nat) : Ok (L.take k) := fun x hx => h x (List.mem_of_mem_take hx)
theorem getD_ge {L : List Nat} {j : Nat} (h : L.length ≤ j) : L.getD j 0 = 0 := by rw [List.getD_eq_getElem?_getD, List.getElem?_eq_none h]; rfl
/-! ### so many, word by word -/
def pop (x : Nat) : Nat := ((List.range 64).filter x.testBit).length
theorem upto_word (s : List Nat) (k : Nat) : (upto s (64 * (k + 1))).length = (upto s (64 * k)).length + pop (s.getD k 0) := by
  unfold upto pop
  rw [show 64 * (k + 1) = 64 * k + 64 by omega, List.range_add, List.filter_append, List.length_append, List.filter_map, List.length_map]
  congr 2
  apply List.filter_congr
  intro j hj
  exact mem_at s k j (List.mem_range.1 hj)
end Go.Proofs.YteejccppdmjlaaaDoor.Bst
