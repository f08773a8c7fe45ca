/- Mathematics of layer 3 (octet): the bytes of a number, of an int, of a text and of a list; what is taken of bytes. Nothing of a program is spoken of here. -/
namespace Go.Proofs.Ytfnllijimmgaoaa.Oct

/-! ### numbers -/
/-- the bytes of a number -/
def pn (n : Nat) : List UInt8 := if _h : n < 128 then [UInt8.ofNat n] else UInt8.ofNat (n % 128 + 128) :: pn (n / 128)
termination_by n
decreasing_by omega
theorem pn_one {n : Nat} (h : n < 128) : pn n = [UInt8.ofNat n] := by rw [pn, dif_pos h]
theorem pn_more {n : Nat} (h : 128 ≤ n) : pn n = UInt8.ofNat (n % 128 + 128) :: pn (n / 128) := by rw [pn, dif_neg (by omega)]

/-- the number of a row of bytes -/
def val : List UInt8 → Nat
  | [] => 0
  | c :: r => c.toNat % 128 + 128 * val r
/-- of a row of bytes, how many are 128 or more ahead of the first that is not, at most k -/
def hc : Nat → List UInt8 → Nat
  | 0, _ => 0
  | _ + 1, [] => 0
  | k + 1, c :: r => if 128 ≤ c.toNat then hc k r + 1 else 0

theorem hc_le (k : Nat) (l : List UInt8) : hc k l ≤ k ∧ hc k l ≤ l.length := by
  induction k generalizing l with
  | zero => exact ⟨Nat.le_refl _, Nat.zero_le _⟩
  | succ k ih =>
    match l with
    | [] => exact ⟨Nat.zero_le _, Nat.zero_le _⟩
    | c :: r =>
      have := ih r
      unfold hc
      split <;> simp <;> omega
theorem hc_high (k : Nat) (l : List UInt8) (j : Nat) (hj : j < hc k l) : 128 ≤ (l.getD j 0).toNat := by
  induction k generalizing l j with
  | zero => exact absurd hj (Nat.not_lt_zero _)
  | succ k ih =>
    match l with
    | [] => exact absurd hj (Nat.not_lt_zero _)
    | c :: r =>
      unfold hc at hj
      split at hj
      · rename_i h
        match j with
        | 0 => exact h
        | j + 1 => exact ih r j (by omega)
      · exact absurd hj (Nat.not_lt_zero _)
theorem hc_low (k : Nat) (l : List UInt8) (h1 : hc k l < k) (h2 : hc k l < l.length) : (l.getD (hc k l) 0).toNat < 128 := by
  induction k generalizing l with
  | zero => exact absurd h1 (Nat.not_lt_zero _)
  | succ k ih =>
    match l with
    | [] => exact absurd h2 (Nat.not_lt_zero _)
    | c :: r =>
      by_cases h : 128 ≤ c.toNat
      · have e : hc (k + 1) (c :: r) = hc k r + 1 := by rw [hc, if_pos h]
        rw [e] at h1 h2 ⊢
        exact ih r (by omega) (by simpa using h2)
      · have e : hc (k + 1) (c :: r) = 0 := by rw [hc, if_neg h]
        rw [e]
        show c.toNat < 128
        omega
/-- that count is known by its marks -/
theorem hc_eq (k : Nat) (l : List UInt8) (n : Nat) (h0 : n ≤ k) (h1 : n ≤ l.length) (h2 : ∀ j, j < n → 128 ≤ (l.getD j 0).toNat) (h3 : n = k ∨ n = l.length ∨ (l.getD n 0).toNat < 128) : hc k l = n := by
  have a := hc_le k l
  rcases Nat.lt_trichotomy (hc k l) n with h | h | h
  · have := hc_low k l (by omega) (by omega)
    have := h2 _ h
    omega
  · exact h
  · have := hc_high k l n h
    rcases h3 with h3 | h3 | h3 <;> omega

/-! ### what is taken: (the number, how many bytes, why not) -/
def tk (l : List UInt8) : Nat × Nat × Int :=
  if hc 10 l = 10 ∨ (hc 10 l = 9 ∧ 9 < l.length ∧ 1 < (l.getD 9 0).toNat) then (0, 0, 3)
  else if hc 10 l = l.length then (0, 0, 4)
  else if 0 < hc 10 l ∧ (l.getD (hc 10 l) 0).toNat = 0 then (0, 0, 3)
  else (val (l.take (hc 10 l + 1)), hc 10 l + 1, 0)

/-- what stands at a place: (the number, the place behind it, why not) -/
def tA (b : List UInt8) (at_ : Int) : Nat × Int × Int :=
  if at_ < 0 ∨ (b.length : Int) < at_ then (0, 0, 2)
  else if (tk (b.drop at_.toNat)).2.2 = 0 then ((tk (b.drop at_.toNat)).1, at_ + ((tk (b.drop at_.toNat)).2.1 : Int), 0) else (0, 0, (tk (b.drop at_.toNat)).2.2)

theorem val_append (a b : List UInt8) : val (a ++ b) = val a + 128 ^ a.length * val b := by
  induction a with
  | nil => simp [val]
  | cons c r ih =>
    rw [List.cons_append, val, val, ih, List.length_cons, Nat.pow_succ, Nat.mul_add]
    rw [show 128 * (128 ^ r.length * val b) = 128 ^ r.length * 128 * val b by rw [← Nat.mul_assoc, Nat.mul_comm 128]]
    omega
theorem val_lt (l : List UInt8) : val l < 128 ^ l.length := by
  induction l with
  | nil => simp [val]
  | cons c r ih =>
    rw [val, List.length_cons, Nat.pow_succ]
    have := Nat.mod_lt c.toNat (show 0 < 128 by decide)
    omega
theorem toNat_of (n : Nat) (h : n < 256) : (UInt8.ofNat n).toNat = n := by
  rw [UInt8.toNat_ofNat']
  exact Nat.mod_eq_of_lt (by omega)

theorem val_pn (n : Nat) : val (pn n) = n := by
  induction n using Nat.strongRecOn with
  | ind n ih =>
    by_cases h : n < 128
    · rw [pn_one h, val, val, toNat_of _ (by omega)]
      omega
    · rw [pn_more (by omega), val, ih _ (by omega), toNat_of _ (by omega)]
      omega
theorem pn_len_pos (n : Nat) : 0 < (pn n).length := by
  by_cases h : n < 128
  · rw [pn_one h]; simp
  · rw [pn_more (by omega)]; simp
theorem pn_len (k : Nat) (n : Nat) (h : n < 128 ^ k) (hk : 0 < k) : (pn n).length ≤ k := by
  induction k generalizing n with
  | zero => omega
  | succ k ih =>
    by_cases h1 : n < 128
    · rw [pn_one h1]; simp
    · rw [pn_more (by omega), List.length_cons]
      have hk : 0 < k := by
        rcases Nat.eq_zero_or_pos k with h0 | h0
        · subst h0; omega
        · exact h0
      have := ih (n / 128) (by rw [Nat.pow_succ] at h; omega) hk
      omega
theorem pn_len10 {n : Nat} (h : n < 18446744073709551616) : (pn n).length ≤ 10 := pn_len 10 n (by omega) (by omega)

/-- what is true of the bytes of a number: all but the last are 128 or more, the last is not; it is not 0, if it is not the first -/
def Good : List UInt8 → Prop
  | [] => False
  | [c] => c.toNat < 128
  | c :: r => 128 ≤ c.toNat ∧ Good r ∧ 0 < val r
theorem good_cons (c x : UInt8) (r : List UInt8) : Good (c :: x :: r) ↔ 128 ≤ c.toNat ∧ Good (x :: r) ∧ 0 < val (x :: r) := Iff.rfl
theorem good_pn (n : Nat) : Good (pn n) := by
  induction n using Nat.strongRecOn with
  | ind n ih =>
    by_cases h : n < 128
    · rw [pn_one h]
      show (UInt8.ofNat n).toNat < 128
      rw [toNat_of _ (by omega)]; exact h
    · rw [pn_more (by omega)]
      have g := ih (n / 128) (by omega)
      have v := val_pn (n / 128)
      have l := pn_len_pos (n / 128)
      generalize pn (n / 128) = q at *
      match q, l with
      | x :: r, _ =>
        rw [good_cons]
        refine ⟨?_, g, by omega⟩
        rw [toNat_of _ (by omega)]
        omega
theorem u8_eq {a b : UInt8} (h : a.toNat = b.toNat) : a = b := UInt8.toNat_inj.1 h
theorem pn_val (l : List UInt8) (h : Good l) : pn (val l) = l := by
  induction l with
  | nil => exact h.elim
  | cons c r ih =>
    match r, ih, h with
    | [], _, h =>
      have h : c.toNat < 128 := h
      have e : val [c] = c.toNat := by rw [val, val]; omega
      rw [e, pn_one h]
      congr 1
      exact u8_eq (toNat_of _ (by omega))
    | x :: r, ih, h =>
      obtain ⟨h1, h2, h3⟩ := (good_cons c x r).1 h
      have hc := c.toNat_lt
      have e : val (c :: x :: r) = c.toNat % 128 + 128 * val (x :: r) := rfl
      have g : 128 ≤ val (c :: x :: r) := by omega
      rw [pn_more g, show val (c :: x :: r) / 128 = val (x :: r) by omega, ih h2, show val (c :: x :: r) % 128 + 128 = c.toNat by omega]
      congr 1
      exact u8_eq (toNat_of _ hc)

/-- the marks of good bytes, place by place -/
theorem good_marks (l : List UInt8) (h : Good l) : (∀ j, j + 1 < l.length → 128 ≤ (l.getD j 0).toNat) ∧ (l.getD (l.length - 1) 0).toNat < 128 ∧ (1 < l.length → 0 < (l.getD (l.length - 1) 0).toNat) := by
  induction l with
  | nil => exact h.elim
  | cons c r ih =>
    match r, ih, h with
    | [], _, h => exact ⟨fun j hj => by simp at hj, h, fun h1 => by simp at h1⟩
    | x :: r, ih, h =>
      obtain ⟨h1, h2, h3⟩ := (good_cons c x r).1 h
      obtain ⟨i1, i2, i3⟩ := ih h2
      refine ⟨fun j hj => ?_, ?_, fun _ => ?_⟩
      · match j with
        | 0 => exact h1
        | j + 1 => exact i1 j (by simpa using hj)
      · exact i2
      · by_cases hr : 1 < (x :: r).length
        · exact i3 hr
        · have : r = [] := by
            have : r.length = 0 := by simp only [List.length_cons] at hr; omega
            exact List.eq_nil_of_length_eq_zero this
          subst this
          have e : val [x] = x.toNat % 128 + 128 * 0 := rfl
          show 0 < x.toNat
          omega
theorem good_of (l : List UInt8) (h0 : 0 < l.length) (h1 : ∀ j, j + 1 < l.length → 128 ≤ (l.getD j 0).toNat) (h2 : (l.getD (l.length - 1) 0).toNat < 128) (h3 : 1 < l.length → 0 < (l.getD (l.length - 1) 0).toNat) : Good l ∧ (1 < l.length → 0 < val l) := by
  induction l with
  | nil => exact absurd h0 (Nat.lt_irrefl _)
  | cons c r ih =>
    match r, ih, h1, h2, h3 with
    | [], _, _, h2, _ => exact ⟨h2, fun h => by simp at h⟩
    | x :: r, ih, h1, h2, h3 =>
      have h3' : 0 < ((x :: r).getD ((x :: r).length - 1) 0).toNat := h3 (by simp)
      have hi := ih (by simp) (fun j hj => h1 (j + 1) (by simpa using hj)) h2 (fun _ => h3')
      have hv : 0 < val (x :: r) := by
        by_cases hr : 1 < (x :: r).length
        · exact hi.2 hr
        · have : r = [] := by
            have : r.length = 0 := by simp only [List.length_cons] at hr; omega
            exact List.eq_nil_of_length_eq_zero this
          subst this
          have h2' : x.toNat < 128 := h2
          have h3'' : 0 < x.toNat := h3'
          have e : val [x] = x.toNat % 128 + 128 * 0 := rfl
          omega
      refine ⟨(good_cons c x r).2 ⟨h1 0 (by simp), hi.1, hv⟩, fun _ => ?_⟩
      have e : val (c :: x :: r) = c.toNat % 128 + 128 * val (x :: r) := rfl
      omega

theorem getD_append_left' (a b : List UInt8) (j : Nat) (h : j < a.length) : (a ++ b).getD j 0 = a.getD j 0 := by
  rw [List.getD_eq_getElem?_getD, List.getD_eq_getElem?_getD, List.getElem?_append_left h]
theorem getD_take (l : List UInt8) (n j : Nat) (h : j < n) : (l.take n).getD j 0 = l.getD j 0 := by
  rw [List.getD_eq_getElem?_getD, List.getD_eq_getElem?_getD, List.getElem?_take, if_pos h]

/-- of ten good bytes the last is 1 at most, if the number is a uint64 -/
theorem good_ten (l : List UInt8) (h : l.length = 10) (hv : val l < 18446744073709551616) (hl : (l.getD 9 0).toNat < 128) : (l.getD 9 0).toNat ≤ 1 := by
  have e : l = l.take 9 ++ l.drop 9 := (List.take_append_drop 9 l).symm
  have e2 : l.drop 9 = [l.getD 9 0] := by
    rw [List.drop_eq_getElem_cons (by omega), List.drop_of_length_le (by omega), List.getD_eq_getElem?_getD, List.getElem?_eq_getElem (by omega)]
    rfl
  have v : val l = val (l.take 9) + 128 ^ 9 * ((l.getD 9 0).toNat % 128 + 128 * 0) := by
    conv => lhs; rw [e]
    rw [val_append, e2, List.length_take, show min 9 l.length = 9 by omega]
    rfl
  omega

/-- what was put is taken again -/
theorem tk_pn (n : Nat) (hn : n < 18446744073709551616) (r : List UInt8) : tk (pn n ++ r) = (n, (pn n).length, 0) := by
  have hg := good_pn n
  have hl := pn_len10 hn
  have hp := pn_len_pos n
  obtain ⟨m1, m2, m3⟩ := good_marks _ hg
  have hv := val_pn n
  have ht := fun h => good_ten (pn n) h (by rw [hv]; exact hn)
  generalize pn n = l at *
  have hh : hc 10 (l ++ r) = l.length - 1 := by
    refine hc_eq 10 _ _ (by omega) (by rw [List.length_append]; omega) (fun j hj => ?_) (.inr (.inr ?_))
    · rw [getD_append_left' _ _ _ (by omega)]; exact m1 j (by omega)
    · rw [getD_append_left' _ _ _ (by omega)]; exact m2
  have hlast : (l ++ r).getD (l.length - 1) 0 = l.getD (l.length - 1) 0 := getD_append_left' _ _ _ (by omega)
  have htk : (l ++ r).take (l.length - 1 + 1) = l := by rw [show l.length - 1 + 1 = l.length by omega, List.take_left]
  unfold tk
  rw [hh, if_neg, if_neg, if_neg, htk, hv, show l.length - 1 + 1 = l.length by omega]
  · rintro ⟨h1, h2⟩
    rw [hlast] at h2
    have := m3 (by omega)
    omega
  · rw [List.length_append]; omega
  · rintro (h | ⟨h, _, h2⟩)
    · omega
    · rw [show (9 : Nat) = l.length - 1 by omega, hlast] at h2
      have h10 : l.length = 10 := by omega
      have := ht h10 (by rw [show (9 : Nat) = l.length - 1 by omega]; exact m2)
      rw [show (9 : Nat) = l.length - 1 by omega] at this
      omega

theorem tk_cases (l : List UInt8) : ((tk l).1 = 0 ∧ (tk l).2.1 = 0 ∧ ((tk l).2.2 = 3 ∨ (tk l).2.2 = 4)) ∨ (tk l).2.2 = 0 := by
  unfold tk
  split
  · exact .inl ⟨rfl, rfl, .inl rfl⟩
  · split
    · exact .inl ⟨rfl, rfl, .inr rfl⟩
    · split
      · exact .inl ⟨rfl, rfl, .inl rfl⟩
      · exact .inr rfl
/-- what is taken has just those bytes -/
theorem tk_inv (l : List UInt8) (h : (tk l).2.2 = 0) : 0 < (tk l).2.1 ∧ (tk l).2.1 ≤ l.length ∧ (tk l).2.1 ≤ 10 ∧ (tk l).1 < 18446744073709551616 ∧ pn (tk l).1 = l.take (tk l).2.1 := by
  have hle := hc_le 10 l
  have hhi := hc_high 10 l
  have hlo := hc_low 10 l
  unfold tk at h ⊢
  generalize hc 10 l = m at *
  split at h
  · exact absurd h (by decide)
  rename_i n1
  split at h
  · exact absurd h (by decide)
  rename_i n2
  split at h
  · exact absurd h (by decide)
  rename_i n3
  rw [if_neg n1, if_neg n2, if_neg n3]
  simp only []
  have hm : m < 10 := by omega
  have hml : m < l.length := by omega
  have hlow := hlo hm hml
  have hlen : (l.take (m + 1)).length = m + 1 := by rw [List.length_take]; omega
  have hlast : (l.take (m + 1)).getD m 0 = l.getD m 0 := getD_take _ _ _ (by omega)
  have hg : Good (l.take (m + 1)) := by
    refine (good_of _ (by omega) (fun j hj => ?_) ?_ (fun h1 => ?_)).1
    · rw [getD_take _ _ _ (by omega)]; exact hhi j (by omega)
    · rw [hlen, Nat.add_sub_cancel, hlast]; exact hlow
    · rw [hlen, Nat.add_sub_cancel, hlast]; omega
  refine ⟨by omega, by omega, by omega, ?_, pn_val _ hg⟩
  have hv := val_lt (l.take (m + 1))
  rw [hlen] at hv
  by_cases h9 : m = 9
  · subst h9
    have e : l.take 10 = l.take 9 ++ [l.getD 9 0] := by
      rw [List.take_succ_eq_append_getElem hml, List.getD_eq_getElem?_getD, List.getElem?_eq_getElem hml]
      rfl
    have v9 := val_lt (l.take 9)
    rw [List.length_take, show min 9 l.length = 9 by omega] at v9
    show val (l.take 10) < _
    rw [e, val_append, List.length_take, show min 9 l.length = 9 by omega, show val [l.getD 9 0] = (l.getD 9 0).toNat % 128 + 128 * 0 from rfl]
    omega
  · have : 128 ^ (m + 1) ≤ 128 ^ 9 := Nat.pow_le_pow_right (by decide) (by omega)
    omega
/-- what was put and is cut is short -/
theorem tk_cut (n : Nat) (hn : n < 18446744073709551616) (k : Nat) (hk : k < (pn n).length) : tk ((pn n).take k) = (0, 0, 4) := by
  obtain ⟨m1, _, _⟩ := good_marks _ (good_pn n)
  have hl := pn_len10 hn
  generalize pn n = l at *
  have hlen : (l.take k).length = k := by rw [List.length_take]; omega
  have hh : hc 10 (l.take k) = k := by
    refine hc_eq 10 _ _ (by omega) (by omega) (fun j hj => ?_) (.inr (.inl hlen.symm))
    rw [getD_take _ _ _ hj]; exact m1 j (by omega)
  unfold tk
  rw [hh, if_neg (by omega), if_pos hlen.symm]

/-- it looks at ten bytes, no more -/
theorem hc_take (k : Nat) (l : List UInt8) : hc k (l.take k) = hc k l := by
  induction k generalizing l with
  | zero => rfl
  | succ k ih =>
    match l with
    | [] => rfl
    | c :: r =>
      rw [List.take_succ_cons, hc, hc, ih]
theorem tk_take (l : List UInt8) : tk (l.take 10) = tk l := by
  have hle := hc_le 10 l
  unfold tk
  rw [hc_take]
  generalize hc 10 l = m at *
  have e1 : (l.take 10).length = min 10 l.length := List.length_take
  have e9 : (l.take 10).getD 9 0 = l.getD 9 0 := getD_take _ _ _ (by omega)
  rw [e1, e9]
  by_cases h1 : m = 10 ∨ (m = 9 ∧ 9 < l.length ∧ 1 < (l.getD 9 0).toNat)
  · rw [if_pos h1, if_pos (by omega)]
  · rw [if_neg h1, if_neg (by omega)]
    by_cases h2 : m = l.length
    · rw [if_pos h2, if_pos (by omega)]
    · rw [if_neg h2, if_neg (by omega), getD_take _ _ _ (by omega), List.take_take, show min (m + 1) 10 = m + 1 by omega]

/-! ### at a place -/
theorem tA_cases (b : List UInt8) (at_ : Int) : ((tA b at_).1 = 0 ∧ (tA b at_).2.1 = 0 ∧ ((tA b at_).2.2 = 2 ∨ (tA b at_).2.2 = 3 ∨ (tA b at_).2.2 = 4)) ∨ (tA b at_).2.2 = 0 := by
  unfold tA
  split
  · exact .inl ⟨rfl, rfl, .inl rfl⟩
  · split
    · exact .inr rfl
    · rename_i h
      rcases tk_cases (b.drop at_.toNat) with ⟨_, _, h1⟩ | h1
      · exact .inl ⟨rfl, rfl, .inr h1⟩
      · exact absurd h1 h
theorem tA_inv (b : List UInt8) (at_ : Int) (h : (tA b at_).2.2 = 0) : 0 ≤ at_ ∧ at_ < (tA b at_).2.1 ∧ (tA b at_).2.1 ≤ at_ + 10 ∧ (tA b at_).2.1 ≤ b.length ∧ (tA b at_).1 < 18446744073709551616 ∧ pn (tA b at_).1 = (b.drop at_.toNat).take ((tA b at_).2.1 - at_).toNat := by
  unfold tA at h ⊢
  split at h
  · exact absurd h (by decide)
  rename_i h0
  split at h
  · rename_i h1
    obtain ⟨a, b', c, d, e⟩ := tk_inv _ h1
    rw [if_neg h0, if_pos h1]
    rw [List.length_drop] at b'
    simp only []
    refine ⟨by omega, by omega, by omega, by omega, d, ?_⟩
    rw [e]
    congr 1
    omega
  · rename_i h1
    exact absurd h h1
theorem tA_lt (b : List UInt8) (at_ : Int) : (tA b at_).1 < 18446744073709551616 := by
  rcases tA_cases b at_ with ⟨h, _⟩ | h
  · omega
  · exact (tA_inv b at_ h).2.2.2.2.1
theorem tA_next (b : List UInt8) (at_ : Int) : 0 ≤ (tA b at_).2.1 ∧ (tA b at_).2.1 ≤ b.length := by
  rcases tA_cases b at_ with ⟨_, h, _⟩ | h
  · omega
  · have := tA_inv b at_ h
    omega
theorem tA_put (a r : List UInt8) (n : Nat) (hn : n < 18446744073709551616) : tA (a ++ (pn n ++ r)) (a.length : Int) = (n, (a.length : Int) + ((pn n).length : Int), 0) := by
  have e : (a ++ (pn n ++ r)).drop ((a.length : Int)).toNat = pn n ++ r := by rw [Int.toNat_natCast, List.drop_left]
  unfold tA
  rw [if_neg (by rw [List.length_append]; omega), e, tk_pn n hn r]
  rfl
theorem tA_cut (n : Nat) (hn : n < 18446744073709551616) (k : Nat) (hk : k < (pn n).length) : tA ((pn n).take k) 0 = (0, 0, 4) := by
  unfold tA
  rw [if_neg (by omega), show ((0 : Int)).toNat = 0 from rfl, List.drop_zero, tk_cut n hn k hk]
  rfl

/-! ### ints -/
def zz (i : Int) : Nat := if 0 ≤ i then (2 * i).toNat else (-2 * i - 1).toNat
def un (n : Nat) : Int := if n % 2 = 0 then ((n / 2 : Nat) : Int) else -1 - ((n / 2 : Nat) : Int)
def I64 (i : Int) : Prop := -9223372036854775808 ≤ i ∧ i < 9223372036854775808
theorem un_zz (i : Int) : un (zz i) = i := by unfold un zz; split <;> split <;> omega
theorem zz_un (n : Nat) : zz (un n) = n := by unfold un zz; split <;> split <;> omega
theorem zz_lt (i : Int) (h : I64 i) : zz i < 18446744073709551616 := by unfold I64 at h; unfold zz; split <;> omega
theorem un_i64 (n : Nat) (h : n < 18446744073709551616) : I64 (un n) := by unfold I64 un; split <;> omega
def pI (i : Int) : List UInt8 := pn (zz i)
/-- TakeInt's answer -/
def tI (b : List UInt8) (at_ : Int) : Int × Int × Int := (un (tA b at_).1, (tA b at_).2.1, (tA b at_).2.2)
theorem tI_err (b : List UInt8) (at_ : Int) (h : (tA b at_).2.2 ≠ 0) : tI b at_ = (0, 0, (tA b at_).2.2) := by
  rcases tA_cases b at_ with ⟨h1, h2, _⟩ | h1
  · unfold tI; rw [h1, h2]; rfl
  · exact absurd h1 h

/-! ### a length, at most most -/
def tL (b : List UInt8) (at_ most : Int) : Nat × Int × Int :=
  if (tA b at_).2.2 ≠ 0 then (0, 0, (tA b at_).2.2) else if most < 0 ∨ most < ((tA b at_).1 : Int) then (0, 0, 5) else tA b at_
theorem tL_cases (b : List UInt8) (at_ most : Int) : ((tL b at_ most).1 = 0 ∧ (tL b at_ most).2.1 = 0 ∧ (tL b at_ most).2.2 ≠ 0) ∨ ((tL b at_ most).2.2 = 0 ∧ (tA b at_).2.2 = 0 ∧ tL b at_ most = tA b at_ ∧ ((tA b at_).1 : Int) ≤ most) := by
  unfold tL
  split
  · rename_i h; exact .inl ⟨rfl, rfl, h⟩
  · rename_i h
    split
    · exact .inl ⟨rfl, rfl, by decide⟩
    · exact .inr ⟨by omega, by omega, rfl, by omega⟩

/-! ### texts -/
def pT (s : List UInt8) : List UInt8 := pn s.length ++ s
def tT (b : List UInt8) (at_ most : Int) : List UInt8 × Int × Int :=
  if (tL b at_ most).2.2 ≠ 0 then ([], 0, (tL b at_ most).2.2)
  else if (b.length : Int) - (tL b at_ most).2.1 < ((tL b at_ most).1 : Int) then ([], 0, 4)
  else ((b.drop (tL b at_ most).2.1.toNat).take (tL b at_ most).1, (tL b at_ most).2.1 + ((tL b at_ most).1 : Int), 0)
theorem tT_put (a r s : List UInt8) (hs : s.length < 9223372036854775808) : tT (a ++ (pT s ++ r)) (a.length : Int) (s.length : Int) = (s, (a.length : Int) + ((pT s).length : Int), 0) := by
  have e0 : a ++ (pT s ++ r) = a ++ (pn s.length ++ (s ++ r)) := by unfold pT; rw [List.append_assoc]
  have e1 := tA_put a (s ++ r) s.length (by omega)
  rw [← e0] at e1
  have e2 : tL (a ++ (pT s ++ r)) (a.length : Int) (s.length : Int) = (s.length, (a.length : Int) + ((pn s.length).length : Int), 0) := by
    unfold tL
    rw [e1, if_neg (by simp), if_neg (by simp)]
  have e3 : (a ++ (pT s ++ r)).drop ((a.length : Int) + ((pn s.length).length : Int)).toNat = s ++ r := by
    rw [e0, ← List.append_assoc, show ((a.length : Int) + ((pn s.length).length : Int)).toNat = (a ++ pn s.length).length by rw [List.length_append]; omega, List.drop_left]
  unfold tT
  rw [e2, if_neg (by simp), if_neg, e3, List.take_left]
  · unfold pT
    rw [List.length_append]
    simp only [Prod.mk.injEq, true_and, and_true]
    omega
  · rw [e0]
    simp only [List.length_append]
    omega
theorem tT_cut (s : List UInt8) (hs : s.length ≤ 1000) (k : Nat) (hk : k < (pT s).length) : (tT ((pT s).take k) 0 1000).2.2 = 4 := by
  have hlen : (pT s).length = (pn s.length).length + s.length := by unfold pT; rw [List.length_append]
  by_cases h : k < (pn s.length).length
  · have e : (pT s).take k = (pn s.length).take k := by unfold pT; rw [List.take_append_of_le_length (by omega)]
    have e1 := tA_cut s.length (by omega) k h
    have e2 : tL ((pT s).take k) 0 1000 = (0, 0, 4) := by
      unfold tL
      rw [e, e1, if_pos (by simp)]
    unfold tT
    rw [e2, if_pos (by simp)]
  · have e : (pT s).take k = [] ++ (pn s.length ++ s.take (k - (pn s.length).length)) := by
      unfold pT
      rw [List.nil_append, List.take_append, List.take_of_length_le (by omega)]
    have e1 := tA_put [] (s.take (k - (pn s.length).length)) s.length (by omega)
    rw [← e] at e1
    have e1 : tA ((pT s).take k) 0 = (s.length, 0 + ((pn s.length).length : Int), 0) := e1
    have e2 : tL ((pT s).take k) 0 1000 = (s.length, 0 + ((pn s.length).length : Int), 0) := by
      unfold tL
      rw [e1, if_neg (by simp), if_neg]
      simp only []
      omega
    unfold tT
    rw [e2, if_neg (by simp), if_pos]
    rw [List.length_take]
    simp only []
    omega

/-! ### lists -/
def fl (l : List Int) : List UInt8 := l.flatMap pI
def pL (l : List Int) : List UInt8 := pn l.length ++ fl l
theorem fl_cons (i : Int) (l : List Int) : fl (i :: l) = pI i ++ fl l := rfl
theorem fl_append (a b : List Int) : fl (a ++ b) = fl a ++ fl b := by unfold fl; simp
theorem fl_one (i : Int) : fl [i] = pI i := by unfold fl; simp
theorem pI_len (i : Int) (h : I64 i) : 0 < (pI i).length ∧ (pI i).length ≤ 10 := ⟨pn_len_pos _, pn_len10 (zz_lt i h)⟩
theorem fl_len (l : List Int) (h : ∀ i ∈ l, I64 i) : l.length ≤ (fl l).length ∧ (fl l).length ≤ 10 * l.length := by
  induction l with
  | nil => simp [fl]
  | cons i r ih =>
    have := ih (fun x hx => h x (List.mem_cons_of_mem _ hx))
    have := pI_len i (h i (by simp))
    rw [fl_cons, List.length_append, List.length_cons]
    omega
/-- so many ints, from a place on -/
def tN (b : List UInt8) : Nat → Int → List Int × Int × Int
  | 0, at_ => ([], at_, 0)
  | k + 1, at_ => if (tI b at_).2.2 ≠ 0 then ([], 0, (tI b at_).2.2) else if (tN b k (tI b at_).2.1).2.2 ≠ 0 then ([], 0, (tN b k (tI b at_).2.1).2.2) else ((tI b at_).1 :: (tN b k (tI b at_).2.1).1, (tN b k (tI b at_).2.1).2.1, 0)
/-- behind those that are there -/
def fin (acc : List Int) (q : List Int × Int × Int) : List Int × Int × Int := if q.2.2 ≠ 0 then ([], 0, q.2.2) else (acc ++ q.1, q.2.1, 0)
theorem fin_nil (b : List UInt8) (k : Nat) (at_ : Int) : fin [] (tN b k at_) = tN b k at_ := by
  unfold fin
  cases k with
  | zero => rfl
  | succ k =>
    rw [tN]
    split
    · rename_i h; simp
    · split
      · simp
      · simp
theorem fin_err (b : List UInt8) (acc : List Int) (k : Nat) (at_ : Int) (h : (tI b at_).2.2 ≠ 0) : fin acc (tN b (k + 1) at_) = ([], 0, (tI b at_).2.2) := by
  rw [tN, if_pos h]
  unfold fin
  rw [if_pos h]
theorem fin_step (b : List UInt8) (acc : List Int) (k : Nat) (at_ : Int) (h : (tI b at_).2.2 = 0) : fin acc (tN b (k + 1) at_) = fin (acc ++ [(tI b at_).1]) (tN b k (tI b at_).2.1) := by
  rw [tN, if_neg (by omega)]
  by_cases h1 : (tN b k (tI b at_).2.1).2.2 = 0
  · rw [if_neg (by omega)]
    unfold fin
    rw [if_neg (by simp), if_neg (by omega)]
    simp
  · rw [if_pos h1]
    unfold fin
    rw [if_pos h1, if_pos h1]
theorem fin_end (b : List UInt8) (acc : List Int) (at_ : Int) : fin acc (tN b 0 at_) = (acc, at_, 0) := by
  unfold fin tN
  simp
def tS (b : List UInt8) (at_ most : Int) : List Int × Int × Int :=
  if (tL b at_ most).2.2 ≠ 0 then ([], 0, (tL b at_ most).2.2) else tN b (tL b at_ most).1 (tL b at_ most).2.1

theorem tI_put (a r : List UInt8) (i : Int) (hi : I64 i) : tI (a ++ (pI i ++ r)) (a.length : Int) = (i, (a.length : Int) + ((pI i).length : Int), 0) := by
  unfold tI pI
  rw [tA_put a r (zz i) (zz_lt i hi)]
  simp only [un_zz]
theorem tN_put (l : List Int) (hl : ∀ i ∈ l, I64 i) (a r : List UInt8) : tN (a ++ (fl l ++ r)) l.length (a.length : Int) = (l, (a.length : Int) + ((fl l).length : Int), 0) := by
  induction l generalizing a with
  | nil => simp [tN, fl]
  | cons i q ih =>
    have e1 : a ++ (fl (i :: q) ++ r) = a ++ (pI i ++ (fl q ++ r)) := by rw [fl_cons, List.append_assoc]
    have e2 := tI_put a (fl q ++ r) i (hl i (by simp))
    have e3 := ih (fun x hx => hl x (List.mem_cons_of_mem _ hx)) (a ++ pI i)
    have e4 : (a ++ pI i) ++ (fl q ++ r) = a ++ (pI i ++ (fl q ++ r)) := List.append_assoc _ _ _
    rw [e4, show (((a ++ pI i).length : Nat) : Int) = (a.length : Int) + ((pI i).length : Int) by rw [List.length_append]; omega] at e3
    rw [e1, List.length_cons, tN, e2]
    simp only [e3]
    rw [fl_cons, List.length_append]
    simp
    omega
theorem tS_put (a r : List UInt8) (l : List Int) (hl : ∀ i ∈ l, I64 i) (hs : l.length < 9223372036854775808) : tS (a ++ (pL l ++ r)) (a.length : Int) (l.length : Int) = (l, (a.length : Int) + ((pL l).length : Int), 0) := by
  have e0 : a ++ (pL l ++ r) = a ++ (pn l.length ++ (fl l ++ r)) := by unfold pL; rw [List.append_assoc]
  have e1 := tA_put a (fl l ++ r) l.length (by omega)
  rw [← e0] at e1
  have e2 : tL (a ++ (pL l ++ r)) (a.length : Int) (l.length : Int) = (l.length, (a.length : Int) + ((pn l.length).length : Int), 0) := by
    unfold tL
    rw [e1, if_neg (by simp), if_neg (by simp)]
  have e3 := tN_put l hl (a ++ pn l.length) r
  have e4 : (a ++ pn l.length) ++ (fl l ++ r) = a ++ (pL l ++ r) := by rw [e0, List.append_assoc]
  rw [e4, show (((a ++ pn l.length).length : Nat) : Int) = (a.length : Int) + ((pn l.length).length : Int) by rw [List.length_append]; omega] at e3
  unfold tS
  rw [e2, if_neg (by simp)]
  show tN _ l.length _ = _
  rw [e3]
  unfold pL
  rw [List.length_append]
  simp only [Prod.mk.injEq, true_and, and_true]
  omega

theorem slice_join (b : List UInt8) (x y z : Nat) (h1 : x ≤ y) (h2 : y ≤ z) : (b.drop x).take (z - x) = (b.drop x).take (y - x) ++ (b.drop y).take (z - y) := by
  rw [show z - x = (y - x) + (z - y) by omega, List.take_add, List.drop_drop, show x + (y - x) = y by omega]
theorem tI_inv (b : List UInt8) (at_ : Int) (h : (tI b at_).2.2 = 0) : 0 ≤ at_ ∧ at_ < (tI b at_).2.1 ∧ (tI b at_).2.1 ≤ b.length ∧ I64 (tI b at_).1 ∧ pI (tI b at_).1 = (b.drop at_.toNat).take ((tI b at_).2.1 - at_).toNat := by
  obtain ⟨h1, h2, _, h3, h4, h5⟩ := tA_inv b at_ h
  exact ⟨h1, h2, h3, un_i64 _ h4, by show pn (zz (un _)) = _; rw [zz_un]; exact h5⟩
theorem tN_inv (b : List UInt8) (k : Nat) (at_ : Int) (h0 : 0 ≤ at_) (h1 : at_ ≤ b.length) (h : (tN b k at_).2.2 = 0) : (tN b k at_).1.length = k ∧ at_ + k ≤ (tN b k at_).2.1 ∧ (tN b k at_).2.1 ≤ b.length ∧ (∀ i ∈ (tN b k at_).1, I64 i) ∧ fl (tN b k at_).1 = (b.drop at_.toNat).take ((tN b k at_).2.1 - at_).toNat := by
  induction k generalizing at_ with
  | zero => simp [tN, fl]; omega
  | succ k ih =>
    rw [tN] at h ⊢
    by_cases h2 : (tI b at_).2.2 = 0
    · rw [if_neg (by omega)] at h ⊢
      by_cases h3 : (tN b k (tI b at_).2.1).2.2 = 0
      · rw [if_neg (by omega)] at h ⊢
        obtain ⟨a1, a2, a3, a4, a5⟩ := tI_inv b at_ h2
        obtain ⟨b1, b2, b3, b4, b5⟩ := ih (tI b at_).2.1 (by omega) a3 h3
        simp only []
        refine ⟨by rw [List.length_cons, b1], by omega, b3, ?_, ?_⟩
        · intro i hi
          rcases List.mem_cons.1 hi with rfl | hi
          · exact a4
          · exact b4 i hi
        · rw [fl_cons, a5, b5]
          generalize (tI b at_).2.1 = y at *
          generalize (tN b k y).2.1 = z at *
          have := slice_join b at_.toNat y.toNat z.toNat (by omega) (by omega)
          rw [show (y - at_).toNat = y.toNat - at_.toNat by omega, show (z - y).toNat = z.toNat - y.toNat by omega, show (z - at_).toNat = z.toNat - at_.toNat by omega, this]
      · rw [if_pos h3] at h
        exact absurd h h3
    · rw [if_pos h2] at h
      exact absurd h h2
theorem tS_inv (b : List UInt8) (at_ most : Int) (h : (tS b at_ most).2.2 = 0) : 0 ≤ at_ ∧ at_ < (tS b at_ most).2.1 ∧ (tS b at_ most).2.1 ≤ b.length ∧ (∀ i ∈ (tS b at_ most).1, I64 i) ∧ ((tS b at_ most).1.length : Int) ≤ most ∧ (tS b at_ most).1.length < b.length ∧ pL (tS b at_ most).1 = (b.drop at_.toNat).take ((tS b at_ most).2.1 - at_).toNat := by
  unfold tS at h ⊢
  split at h
  · rename_i h1; exact absurd h h1
  rename_i h1
  rw [if_neg h1]
  rcases tL_cases b at_ most with ⟨_, _, h2⟩ | ⟨_, h2, h3, h4⟩
  · exact absurd h2 h1
  rw [h3] at h ⊢
  obtain ⟨a1, a2, _, a3, a4, a5⟩ := tA_inv b at_ h2
  obtain ⟨b1, b2, b3, b4, b5⟩ := tN_inv b _ _ (by omega) a3 h
  unfold pL
  rw [b1, b5, a5]
  generalize (tA b at_).2.1 = y at *
  generalize (tA b at_).1 = v at *
  generalize (tN b v y).2.1 = z at *
  have := slice_join b at_.toNat y.toNat z.toNat (by omega) (by omega)
  rw [show (y - at_).toNat = y.toNat - at_.toNat by omega, show (z - y).toNat = z.toNat - y.toNat by omega, show (z - at_).toNat = z.toNat - at_.toNat by omega, ← this]
  exact ⟨a1, by omega, b3, b4, h4, by omega, rfl⟩

theorem tL_err (b : List UInt8) (at_ most : Int) : (tL b at_ most).2.2 = 0 ∨ (tL b at_ most).2.2 = 2 ∨ (tL b at_ most).2.2 = 3 ∨ (tL b at_ most).2.2 = 4 ∨ (tL b at_ most).2.2 = 5 := by
  unfold tL
  split
  · rcases tA_cases b at_ with ⟨_, _, h⟩ | h
    · show (tA b at_).2.2 = 0 ∨ (tA b at_).2.2 = 2 ∨ (tA b at_).2.2 = 3 ∨ (tA b at_).2.2 = 4 ∨ (tA b at_).2.2 = 5
      omega
    · exact .inl h
  · split
    · exact .inr (.inr (.inr (.inr rfl)))
    · left; omega
theorem tN_err (b : List UInt8) (k : Nat) (at_ : Int) : (tN b k at_).2.2 = 0 ∨ (tN b k at_).2.2 = 2 ∨ (tN b k at_).2.2 = 3 ∨ (tN b k at_).2.2 = 4 := by
  induction k generalizing at_ with
  | zero => exact .inl rfl
  | succ k ih =>
    rw [tN]
    split
    · show (tA b at_).2.2 = 0 ∨ (tA b at_).2.2 = 2 ∨ (tA b at_).2.2 = 3 ∨ (tA b at_).2.2 = 4
      rcases tA_cases b at_ with ⟨_, _, h⟩ | h
      · omega
      · exact .inl h
    · split
      · exact ih _
      · exact .inl rfl
theorem tS_err (b : List UInt8) (at_ most : Int) : (tS b at_ most).2.2 = 0 ∨ (tS b at_ most).2.2 = 2 ∨ (tS b at_ most).2.2 = 3 ∨ (tS b at_ most).2.2 = 4 ∨ (tS b at_ most).2.2 = 5 := by
  unfold tS
  split
  · exact tL_err b at_ most
  · have := tN_err b (tL b at_ most).1 (tL b at_ most).2.1
    omega

/-! ### what the loops come to -/
/-- the bytes that were laid, and the number that is left -/
def PutSo (n m : Nat) (ks : List UInt8) : Prop := pn n = ks ++ pn m
theorem PutSo.start (n : Nat) : PutSo n n [] := rfl
theorem PutSo.step {n m : Nat} {ks : List UInt8} (h : PutSo n m ks) (hm : 128 ≤ m) : PutSo n (m / 128) (ks ++ [UInt8.ofNat (m % 128 + 128)]) := by
  unfold PutSo at *
  rw [h, pn_more hm, List.append_assoc]
  rfl
theorem PutSo.last {n m : Nat} {ks : List UInt8} (h : PutSo n m ks) (hm : m < 128) : pn n = ks ++ [UInt8.ofNat m] := by rw [h, pn_one hm]
theorem PutSo.len {n m : Nat} {ks : List UInt8} (h : PutSo n m ks) : ks.length < (pn n).length := by
  rw [h, List.length_append]
  have := pn_len_pos m
  omega
theorem val_snoc (l : List UInt8) (k : Nat) (h : k < l.length) : val (l.take (k + 1)) = val (l.take k) + 128 ^ k * ((l.getD k 0).toNat % 128) := by
  rw [List.take_succ_eq_append_getElem h, val_append, List.length_take, show min k l.length = k by omega, List.getD_eq_getElem?_getD, List.getElem?_eq_getElem h]
  show _ = _ + _ * (l[k].toNat % 128)
  rw [val, val]
  simp
theorem val_cons_drop (l : List UInt8) (k : Nat) (h : k < l.length) : val (l.drop k) = (l.getD k 0).toNat % 128 + 128 * val (l.drop (k + 1)) := by
  rw [List.drop_eq_getElem_cons h, val, List.getD_eq_getElem?_getD, List.getElem?_eq_getElem h]
  rfl
theorem val_drop_le (l : List UInt8) (k : Nat) : val (l.drop k) ≤ val l := by
  conv => rhs; rw [← List.take_append_drop k l, val_append]
  have : 0 < 128 ^ (l.take k).length := Nat.pow_pos (by decide)
  have := Nat.mul_le_mul_right (val (l.drop k)) this
  omega
theorem val_take_le (l : List UInt8) (k : Nat) : val (l.take k) ≤ val l := by
  conv => rhs; rw [← List.take_append_drop k l, val_append]
  omega
theorem or_shift (a b k : Nat) (h : a < 2 ^ k) : a ||| b * 2 ^ k = a + b * 2 ^ k := by
  have := Nat.shiftLeft_add_eq_or_of_lt h b
  rw [Nat.shiftLeft_eq] at this
  rw [Nat.or_comm, ← this]
  omega
theorem pow128 (k : Nat) : 128 ^ k = 2 ^ (7 * k) := by rw [Nat.pow_mul]
end Go.Proofs.Ytfnllijimmgaoaa.Oct
