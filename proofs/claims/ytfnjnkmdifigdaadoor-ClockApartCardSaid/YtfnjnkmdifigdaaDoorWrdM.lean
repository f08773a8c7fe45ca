/- Mathematics of layer 2 (word): lists of bytes, their words, lines cut at a byte. Nothing of a program is spoken of here. -/
namespace Go.Proofs.YtfnjnkmdifigdaaDoor.Wrd

/-! ### bytes -/
def pl : List UInt8 := [46, 95, 58, 47, 43, 45, 44, 61]
def hexs : List UInt8 := [48, 49, 50, 51, 52, 53, 54, 55, 56, 57, 97, 98, 99, 100, 101, 102]
/-- stands a byte for itself? -/
def st (c : UInt8) : Bool := (decide (97 ≤ c.toNat) && decide (c.toNat ≤ 122)) || ((decide (65 ≤ c.toNat) && decide (c.toNat ≤ 90)) || ((decide (48 ≤ c.toNat) && decide (c.toNat ≤ 57)) || pl.contains c))
def hx (n : Nat) : UInt8 := hexs.getD n 0
/-- the digit that a byte is, or -1 -/
def dg (c : UInt8) : Int := if 48 ≤ c.toNat ∧ c.toNat ≤ 57 then (c.toNat : Int) - 48 else if 97 ≤ c.toNat ∧ c.toNat ≤ 102 then (c.toNat : Int) - 87 else -1
/-- the byte of two digits -/
def two (a b : Int) : UInt8 := UInt8.ofNat (16 * a + b).toNat
/-- a byte in a word -/
def q1 (c : UInt8) : List UInt8 := if st c = true then [c] else [37, hx (c.toNat / 16), hx (c.toNat % 16)]
def qs (l : List UInt8) : List UInt8 := l.flatMap q1
/-- the word of a text -/
def qt (l : List UInt8) : List UInt8 := if l = [] then [37] else qs l

theorem all_bytes {p : UInt8 → Prop} (h : ∀ n : Fin 256, p (UInt8.ofNat n.val)) (c : UInt8) : p c := by
  have := h ⟨c.toNat, c.toNat_lt⟩
  simpa using this

theorem st_37 : st 37 = false := by decide
theorem st_32 : st 32 = false := by decide
theorem st_10 : st 10 = false := by decide
theorem hx_dg : ∀ a : UInt8, 0 ≤ dg a → hx (dg a).toNat = a ∧ (dg a).toNat < 16 ∧ dg a < 16 := all_bytes (by decide +kernel)
theorem dg_hx : ∀ n : Fin 16, dg (hx n.val) = (n.val : Int) := by decide +kernel
theorem hx_fine : ∀ n : Fin 16, 33 ≤ (hx n.val).toNat ∧ (hx n.val).toNat ≤ 126 := by decide +kernel
theorem st_fine : ∀ c : UInt8, st c = true → 33 ≤ c.toNat ∧ c.toNat ≤ 126 := all_bytes (by decide +kernel)

theorem two_hx (c : UInt8) : two (dg (hx (c.toNat / 16))) (dg (hx (c.toNat % 16))) = c := by
  have h := c.toNat_lt
  have h1 := dg_hx ⟨c.toNat / 16, by omega⟩
  have h2 := dg_hx ⟨c.toNat % 16, by omega⟩
  simp only [] at h1 h2
  unfold two
  rw [h1, h2, show (16 * ((c.toNat / 16 : Nat) : Int) + ((c.toNat % 16 : Nat) : Int)).toNat = c.toNat by omega]
  simp

theorem hx_two (a b : UInt8) (ha : 0 ≤ dg a) (hb : 0 ≤ dg b) : hx ((two (dg a) (dg b)).toNat / 16) = a ∧ hx ((two (dg a) (dg b)).toNat % 16) = b := by
  obtain ⟨a1, a2, a3⟩ := hx_dg a ha
  obtain ⟨b1, b2, b3⟩ := hx_dg b hb
  have e : (two (dg a) (dg b)).toNat = 16 * (dg a).toNat + (dg b).toNat := by
    unfold two
    rw [show (16 * dg a + dg b).toNat = 16 * (dg a).toNat + (dg b).toNat by omega]
    simp
    omega
  rw [e, show (16 * (dg a).toNat + (dg b).toNat) / 16 = (dg a).toNat by omega, show (16 * (dg a).toNat + (dg b).toNat) % 16 = (dg b).toNat by omega]
  exact ⟨a1, b1⟩

theorem q1_len (c : UInt8) : 1 ≤ (q1 c).length ∧ (q1 c).length ≤ 3 := by
  unfold q1; split <;> simp
theorem q1_fine (c x : UInt8) (h : x ∈ q1 c) : 33 ≤ x.toNat ∧ x.toNat ≤ 126 := by
  unfold q1 at h
  split at h
  · rename_i hs
    simp only [List.mem_cons, List.not_mem_nil, or_false] at h
    subst h
    exact st_fine _ hs
  · have hc := c.toNat_lt
    simp only [List.mem_cons, List.not_mem_nil, or_false] at h
    rcases h with rfl | rfl | rfl
    · decide
    · exact hx_fine ⟨c.toNat / 16, by omega⟩
    · exact hx_fine ⟨c.toNat % 16, by omega⟩
theorem qs_len (l : List UInt8) : l.length ≤ (qs l).length ∧ (qs l).length ≤ 3 * l.length := by
  induction l with
  | nil => simp [qs]
  | cons c r ih =>
    have := q1_len c
    have e : qs (c :: r) = q1 c ++ qs r := rfl
    rw [e, List.length_append, List.length_cons]
    omega
theorem qs_snoc (l : List UInt8) (c : UInt8) : qs (l ++ [c]) = qs l ++ q1 c := by
  unfold qs; simp
theorem qt_len (l : List UInt8) : 1 ≤ (qt l).length ∧ (qt l).length ≤ 3 * l.length + 1 := by
  have := qs_len l
  unfold qt
  split
  · simp
  · rename_i h
    have : l.length ≠ 0 := fun e => h (List.eq_nil_of_length_eq_zero e)
    omega
theorem qs_fine (l : List UInt8) (x : UInt8) (h : x ∈ qs l) : 33 ≤ x.toNat ∧ x.toNat ≤ 126 := by
  unfold qs at h
  obtain ⟨c, _, hc⟩ := List.mem_flatMap.1 h
  exact q1_fine c x hc
theorem qt_fine (l : List UInt8) (x : UInt8) (h : x ∈ qt l) : 33 ≤ x.toNat ∧ x.toNat ≤ 126 := by
  unfold qt at h
  split at h
  · simp only [List.mem_cons, List.not_mem_nil, or_false] at h
    subst h; decide
  · exact qs_fine l x h
theorem qt_ne (l : List UInt8) : qt l ≠ [] := by
  intro e
  have := qt_len l
  rw [e] at this
  simp at this

/-! ### reading a word back, byte by byte -/
/-- what is read first, and of how many bytes; 0: nothing may be read -/
def dec (f : List UInt8 → UInt8 × Nat) (w : List UInt8) : Option (List UInt8) :=
  if _h : w = [] then some [] else if _h0 : (f w).2 = 0 then none else (dec f (w.drop (f w).2)).map ((f w).1 :: ·)
termination_by w.length
decreasing_by
  rw [List.length_drop]
  have : w.length ≠ 0 := fun e => _h (List.eq_nil_of_length_eq_zero e)
  omega

theorem dec_nil (f : List UInt8 → UInt8 × Nat) : dec f [] = some [] := by rw [dec]; simp
theorem dec_none (f : List UInt8 → UInt8 × Nat) (w : List UInt8) (h : w ≠ []) (h0 : (f w).2 = 0) : dec f w = none := by rw [dec, dif_neg h, dif_pos h0]
theorem dec_some (f : List UInt8 → UInt8 × Nat) (w : List UInt8) (h : w ≠ []) (h0 : (f w).2 ≠ 0) : dec f w = (dec f (w.drop (f w).2)).map ((f w).1 :: ·) := by rw [dec, dif_neg h, dif_neg h0]

def ld2 : List UInt8 → UInt8 × Nat
  | [] => (0, 0)
  | c :: r => if c ≠ 37 then (c, 1) else match r with
    | a :: b :: _ => if dg a < 0 ∨ dg b < 0 then (0, 0) else (two (dg a) (dg b), 3)
    | _ => (0, 0)
def ld : List UInt8 → UInt8 × Nat
  | [] => (0, 0)
  | c :: r => if st c = true then (c, 1) else if c ≠ 37 then (0, 0) else match r with
    | a :: b :: _ => if dg a < 0 ∨ dg b < 0 then (0, 0) else if st (two (dg a) (dg b)) = true then (0, 0) else (two (dg a) (dg b), 3)
    | _ => (0, 0)

theorem ld_37 (a b : UInt8) (r : List UInt8) : ld (37 :: a :: b :: r) = if dg a < 0 ∨ dg b < 0 then (0, 0) else if st (two (dg a) (dg b)) = true then (0, 0) else (two (dg a) (dg b), 3) := by
  show (if st 37 = true then ((37 : UInt8), 1) else if (37 : UInt8) ≠ 37 then (0, 0) else if dg a < 0 ∨ dg b < 0 then (0, 0) else if st (two (dg a) (dg b)) = true then (0, 0) else (two (dg a) (dg b), 3)) = _
  rw [if_neg (by rw [st_37]; simp), if_neg (by simp)]
theorem ld_37_short (r : List UInt8) (h : r.length < 2) : ld (37 :: r) = (0, 0) := by
  match r, h with
  | [], _ => rfl
  | [a], _ => rfl
theorem ld_self (c : UInt8) (r : List UInt8) (h : st c = true) : ld (c :: r) = (c, 1) := by
  show (if st c = true then (c, 1) else _) = _
  rw [if_pos h]
theorem ld_other (c : UInt8) (r : List UInt8) (h : ¬ st c = true) (h2 : c ≠ 37) : ld (c :: r) = (0, 0) := by
  show (if st c = true then (c, 1) else if c ≠ 37 then (0, 0) else _) = _
  rw [if_neg h, if_pos h2]
theorem ld2_37 (a b : UInt8) (r : List UInt8) : ld2 (37 :: a :: b :: r) = if dg a < 0 ∨ dg b < 0 then (0, 0) else (two (dg a) (dg b), 3) := by
  show (if (37 : UInt8) ≠ 37 then ((37 : UInt8), 1) else if dg a < 0 ∨ dg b < 0 then (0, 0) else (two (dg a) (dg b), 3)) = _
  rw [if_neg (by simp)]
theorem ld2_37_short (r : List UInt8) (h : r.length < 2) : ld2 (37 :: r) = (0, 0) := by
  match r, h with
  | [], _ => rfl
  | [a], _ => rfl
theorem ld2_self (c : UInt8) (r : List UInt8) (h : c ≠ 37) : ld2 (c :: r) = (c, 1) := by
  show (if c ≠ 37 then (c, 1) else _) = _
  rw [if_pos h]

theorem ld_q1 (c : UInt8) (r : List UInt8) : ld (q1 c ++ r) = (c, (q1 c).length) := by
  unfold q1
  by_cases h : st c = true
  · rw [if_pos h]
    exact ld_self c r h
  · rw [if_neg h]
    have hc := c.toNat_lt
    have h1 := dg_hx ⟨c.toNat / 16, by omega⟩
    have h2 := dg_hx ⟨c.toNat % 16, by omega⟩
    simp only [] at h1 h2
    show ld (37 :: hx (c.toNat / 16) :: hx (c.toNat % 16) :: r) = _
    rw [ld_37, two_hx, if_neg (by rw [h1, h2]; omega), if_neg h]
    rfl

theorem ld_inv (w : List UInt8) (h : (ld w).2 ≠ 0) : w = q1 (ld w).1 ++ w.drop (ld w).2 ∧ (ld w).2 = (q1 (ld w).1).length ∧ (ld w).2 ≤ w.length ∧ ld2 w = ld w := by
  match w, h with
  | [], h => exact absurd rfl h
  | c :: r, h =>
    by_cases hs : st c = true
    · have hne : c ≠ 37 := by rintro rfl; rw [st_37] at hs; cases hs
      rw [ld_self c r hs, ld2_self c r hne]
      simp [q1, hs]
    · by_cases hne : c ≠ 37
      · rw [ld_other c r hs hne] at h; exact absurd rfl h
      · have hc : c = 37 := Classical.not_not.1 hne
        subst hc
        match r, h with
        | [], h => exact absurd rfl h
        | [a], h => exact absurd rfl h
        | a :: b :: r', h =>
          have e := ld_37 a b r'
          have e2 := ld2_37 a b r'
          by_cases hd : dg a < 0 ∨ dg b < 0
          · rw [e, if_pos hd] at h; exact absurd rfl h
          · by_cases hv : st (two (dg a) (dg b)) = true
            · rw [e, if_neg hd, if_pos hv] at h; exact absurd rfl h
            · rw [e, e2, if_neg hd, if_neg hv, if_neg hd]
              obtain ⟨x1, x2⟩ := hx_two a b (by omega) (by omega)
              have q : q1 (two (dg a) (dg b)) = [37, a, b] := by unfold q1; rw [if_neg hv, x1, x2]
              simp [q]

theorem dec_qs (t : List UInt8) : dec ld (qs t) = some t := by
  induction t with
  | nil => exact dec_nil _
  | cons c r ih =>
    have e : qs (c :: r) = q1 c ++ qs r := rfl
    have hl := q1_len c
    have h1 := ld_q1 c (qs r)
    rw [e, dec_some _ _ (by intro h; have := congrArg List.length h; simp at this; rw [this.1] at hl; simp at hl) (by rw [h1]; show (q1 c).length ≠ 0; omega), h1]
    show (dec ld (List.drop (q1 c).length (q1 c ++ qs r))).map (c :: ·) = _
    rw [List.drop_left, ih]
    rfl

theorem dec_inv (n : Nat) : ∀ (w t : List UInt8), w.length ≤ n → dec ld w = some t → qs t = w ∧ dec ld2 w = some t := by
  induction n with
  | zero =>
    intro w t hn h
    obtain rfl : w = [] := List.eq_nil_of_length_eq_zero (by omega)
    rw [dec_nil] at h
    injection h with h
    subst h
    exact ⟨rfl, dec_nil _⟩
  | succ n ih =>
    intro w t hn h
    by_cases hw : w = []
    · subst hw
      rw [dec_nil] at h
      injection h with h
      subst h
      exact ⟨rfl, dec_nil _⟩
    · by_cases h0 : (ld w).2 = 0
      · rw [dec_none _ _ hw h0] at h; cases h
      · obtain ⟨a1, a2, a3, a4⟩ := ld_inv w h0
        rw [dec_some _ _ hw h0] at h
        cases hr : dec ld (w.drop (ld w).2) with
        | none => rw [hr] at h; cases h
        | some r =>
          rw [hr] at h
          injection h with h
          subst h
          obtain ⟨b1, b2⟩ := ih (w.drop (ld w).2) r (by rw [List.length_drop]; omega) hr
          refine ⟨?_, ?_⟩
          · show q1 (ld w).1 ++ qs r = w
            rw [b1]; exact a1.symm
          · rw [dec_some _ _ hw (by rw [a4]; exact h0), a4, b2]; rfl

theorem dec_iff (w t : List UInt8) : dec ld w = some t ↔ qs t = w :=
  ⟨fun h => (dec_inv w.length w t (Nat.le_refl _) h).1, fun h => by rw [← h]; exact dec_qs t⟩

/-- the text of a word -/
def uq (w : List UInt8) : Option (List UInt8) := if w = [37] then some [] else if w = [] then none else dec ld w
/-- .. as the document's own function reads it -/
def rq (w : List UInt8) : Option (List UInt8) := if w = [37] then some [] else match dec ld2 w with
  | none => none
  | some s => if qt s = w then some s else none

theorem qs_ne_37 (t : List UInt8) : qs t ≠ [37] := by
  intro e
  match t, e with
  | [], e => cases e
  | c :: r, e =>
    have e1 : q1 c ++ qs r = [37] := e
    unfold q1 at e1
    split at e1
    · rename_i hs
      injection e1 with e2 e3
      rw [e2, st_37] at hs
      cases hs
    · have := congrArg List.length e1
      simp at this

theorem uq_iff (w t : List UInt8) : uq w = some t ↔ qt t = w := by
  unfold uq qt
  by_cases h1 : w = [37]
  · subst h1
    rw [if_pos rfl]
    constructor
    · intro h; injection h with h; subst h; rfl
    · intro h
      by_cases ht : t = []
      · rw [ht]
      · rw [if_neg ht] at h; exact absurd h (qs_ne_37 t)
  · rw [if_neg h1]
    by_cases h2 : w = []
    · rw [if_pos h2]
      subst h2
      constructor
      · intro h; cases h
      · intro h; exact absurd h (qt_ne t)
    · rw [if_neg h2, dec_iff]
      by_cases ht : t = []
      · subst ht
        rw [if_pos rfl]
        constructor
        · intro h; exact absurd h.symm h2
        · intro h; exact absurd h.symm h1
      · rw [if_neg ht]

theorem uq_qt (t : List UInt8) : uq (qt t) = some t := (uq_iff _ _).2 rfl
theorem qt_inj (s t : List UInt8) (h : qt s = qt t) : s = t := by
  have := uq_qt s
  rw [h, uq_qt] at this
  injection this with this
  exact this.symm
theorem rq_eq (w : List UInt8) : rq w = uq w := by
  unfold rq
  by_cases h1 : w = [37]
  · rw [if_pos h1]; unfold uq; rw [if_pos h1]
  · rw [if_neg h1]
    cases hu : uq w with
    | some t =>
      have h := (uq_iff w t).1 hu
      have hd : dec ld w = some t := by
        unfold uq at hu
        rw [if_neg h1] at hu
        split at hu
        · cases hu
        · exact hu
      rw [(dec_inv w.length w t (Nat.le_refl _) hd).2]
      show (if qt t = w then some t else none) = _
      rw [if_pos h]
    | none =>
      cases hd : dec ld2 w with
      | none => rfl
      | some s =>
        show (if qt s = w then some s else none) = _
        by_cases hq : qt s = w
        · rw [(uq_iff w s).2 hq] at hu; cases hu
        · rw [if_neg hq]
theorem uq_len (w t : List UInt8) (h : uq w = some t) : t.length ≤ w.length := by
  have := (uq_iff w t).1 h
  subst this
  have := qs_len t
  unfold qt
  split
  · rename_i e; subst e; simp
  · omega

/-! ### what a loop has read -/
/-- of w all but the last so many bytes were read, as acc -/
def Got (f : List UInt8 → UInt8 × Nat) (w : List UInt8) (k : Nat) (acc : List UInt8) : Prop := k ≤ w.length ∧ dec f w = (dec f (w.drop k)).map (acc ++ ·)

theorem Got.start (f : List UInt8 → UInt8 × Nat) (w : List UInt8) : Got f w 0 [] := ⟨Nat.zero_le _, by
  rw [List.drop_zero]; cases dec f w <;> simp⟩
theorem Got.stop {f : List UInt8 → UInt8 × Nat} {w : List UInt8} {k : Nat} {acc : List UInt8} (h : Got f w k acc) (hk : k < w.length) (h0 : (f (w.drop k)).2 = 0) : dec f w = none := by
  rw [h.2, dec_none f _ (by intro e; have := congrArg List.length e; rw [List.length_drop] at this; simp at this; omega) h0]; rfl
theorem Got.step {f : List UInt8 → UInt8 × Nat} {w : List UInt8} {k : Nat} {acc : List UInt8} (h : Got f w k acc) (hk : k < w.length) (h0 : (f (w.drop k)).2 ≠ 0) (hle : k + (f (w.drop k)).2 ≤ w.length) : Got f w (k + (f (w.drop k)).2) (acc ++ [(f (w.drop k)).1]) := by
  refine ⟨hle, ?_⟩
  rw [h.2, dec_some f _ (by intro e; have := congrArg List.length e; rw [List.length_drop] at this; simp at this; omega) h0, List.drop_drop]
  cases dec f (w.drop (k + (f (w.drop k)).2)) <;> simp
theorem Got.last {f : List UInt8 → UInt8 × Nat} {w : List UInt8} {k : Nat} {acc : List UInt8} (h : Got f w k acc) (hk : w.length ≤ k) : dec f w = some acc := by
  rw [h.2, List.drop_eq_nil_of_le hk, dec_nil]; simp

/-! ### lines cut at a byte -/
def cut (c : UInt8) : List UInt8 → List (List UInt8)
  | [] => [[]]
  | x :: r => if x = c then [] :: cut c r else match cut c r with
    | h :: t => (x :: h) :: t
    | [] => [[x]]
/-- the parts that are still to come from place k on; none behind the end -/
def rc (c : UInt8) (l : List UInt8) (k : Nat) : List (List UInt8) := if k ≤ l.length then cut c (l.drop k) else []

theorem cut_ne (c : UInt8) (l : List UInt8) : cut c l ≠ [] := by
  cases l with
  | nil => simp [cut]
  | cons x r =>
    unfold cut
    split
    · simp
    · split <;> simp
theorem cut_append (c : UInt8) (a b : List UInt8) (h : c ∉ a) : cut c (a ++ c :: b) = a :: cut c b := by
  induction a with
  | nil => simp [cut]
  | cons x r ih =>
    have hx : x ≠ c := fun e => h (by rw [e]; exact List.mem_cons_self ..)
    have hr : c ∉ r := fun e => h (List.mem_cons_of_mem _ e)
    show (if x = c then [] :: cut c (r ++ c :: b) else match cut c (r ++ c :: b) with
      | h :: t => (x :: h) :: t
      | [] => [[x]]) = _
    rw [if_neg hx, ih hr]
theorem cut_one (c : UInt8) (a : List UInt8) (h : c ∉ a) : cut c a = [a] := by
  induction a with
  | nil => rfl
  | cons x r ih =>
    have hx : x ≠ c := fun e => h (by rw [e]; exact List.mem_cons_self ..)
    have hr : c ∉ r := fun e => h (List.mem_cons_of_mem _ e)
    unfold cut
    rw [if_neg hx, ih hr]
theorem cut_len (c : UInt8) (l : List UInt8) : (cut c l).length ≤ l.length + 1 := by
  induction l with
  | nil => simp [cut]
  | cons x r ih =>
    unfold cut
    split
    · simp; omega
    · cases h : cut c r with
      | nil => exact absurd h (cut_ne c r)
      | cons a b => rw [h] at ih; simp at ih ⊢; omega
theorem cut_part_len (c : UInt8) (l p : List UInt8) (h : p ∈ cut c l) : p.length ≤ l.length := by
  induction l generalizing p with
  | nil => simp [cut] at h; subst h; simp
  | cons x r ih =>
    unfold cut at h
    split at h
    · rcases List.mem_cons.1 h with rfl | h
      · simp
      · have := ih p h; simp; omega
    · cases hc : cut c r with
      | nil => exact absurd hc (cut_ne c r)
      | cons a b =>
        rw [hc] at h ih
        rcases List.mem_cons.1 h with rfl | h
        · have := ih a (List.mem_cons_self ..); simp; omega
        · have := ih p (List.mem_cons_of_mem _ h); simp; omega
theorem rc_zero (c : UInt8) (l : List UInt8) : rc c l 0 = cut c l := by unfold rc; rw [if_pos (Nat.zero_le _), List.drop_zero]
theorem rc_end (c : UInt8) (l : List UInt8) (k : Nat) (h : l.length < k) : rc c l k = [] := by unfold rc; rw [if_neg (by omega)]
/-- a part ends at a byte c, or at the end -/
theorem rc_step (c : UInt8) (l : List UInt8) (k t : Nat) (hkt : k ≤ t) (ht : t ≤ l.length) (hno : ∀ j, k ≤ j → j < t → l[j]? ≠ some c) (hend : t = l.length ∨ l[t]? = some c) :
    rc c l k = (l.take t).drop k :: rc c l (t + 1) := by
  have hmem : c ∉ (l.take t).drop k := by
    intro h
    obtain ⟨i, hi, e⟩ := List.getElem_of_mem h
    rw [List.length_drop, List.length_take] at hi
    rw [List.getElem_drop, List.getElem_take] at e
    exact hno (k + i) (by omega) (by omega) (by rw [List.getElem?_eq_getElem (by omega), e])
  unfold rc
  rw [if_pos (by omega)]
  rcases hend with rfl | he
  · rw [if_neg (by omega)]
    rw [List.take_length] at hmem ⊢
    exact cut_one c _ hmem
  · have hlt : t < l.length := by
      rcases Nat.lt_or_ge t l.length with h | h
      · exact h
      · rw [List.getElem?_eq_none h] at he; cases he
    rw [if_pos (by omega)]
    have e : l.drop k = (l.take t).drop k ++ c :: l.drop (t + 1) := by
      have h1 : l = l.take t ++ l.drop t := (List.take_append_drop t l).symm
      have h2 : l.drop t = c :: l.drop (t + 1) := by
        rw [List.drop_eq_getElem_cons hlt]
        rw [List.getElem?_eq_getElem hlt] at he
        injection he with he
        rw [he]
      conv => lhs; rw [h1, List.drop_append_of_le_length (by rw [List.length_take]; omega), h2]
    rw [e]
    exact cut_append c _ _ hmem

/-! ### texts of a line -/
def ok (p : List UInt8) : Bool := (uq p).isSome
def tx (p : List UInt8) : List UInt8 := (uq p).getD []
def spl (line : List UInt8) : List (List UInt8) × Nat × Nat :=
  if line = [] then ([], 0, 0) else if (cut 32 line).all ok = true then ((cut 32 line).map tx, 0, 0) else ([], ((cut 32 line).takeWhile ok).length, 3)

theorem tw_stop (done rest : List (List UInt8)) (p : List UInt8) (hd : done.all ok = true) (hp : ok p = false) : (done ++ p :: rest).all ok = false ∧ ((done ++ p :: rest).takeWhile ok).length = done.length := by
  induction done with
  | nil => simp [hp]
  | cons a b ih =>
    rw [List.all_cons, Bool.and_eq_true] at hd
    obtain ⟨i1, i2⟩ := ih hd.2
    rw [List.cons_append, List.all_cons, List.takeWhile_cons, hd.1]
    simp [i1, i2]
theorem spl_stop (line : List UInt8) (hl : line ≠ []) (done rest : List (List UInt8)) (p : List UInt8) (hc : cut 32 line = done ++ p :: rest) (hd : done.all ok = true) (hp : ok p = false) : spl line = ([], done.length, 3) := by
  obtain ⟨h1, h2⟩ := tw_stop done rest p hd hp
  unfold spl
  rw [if_neg hl, hc, h1, h2]
  rfl
theorem spl_all (line : List UInt8) (hl : line ≠ []) (hd : (cut 32 line).all ok = true) : spl line = ((cut 32 line).map tx, 0, 0) := by
  unfold spl
  rw [if_neg hl, if_pos hd]
theorem spl_nil : spl [] = ([], 0, 0) := rfl

def jn (l : List (List UInt8)) : List UInt8 := [32].intercalate (l.map qt)

theorem inter_cons (s x y : List UInt8) (r : List (List UInt8)) : s.intercalate (x :: y :: r) = x ++ s ++ s.intercalate (y :: r) := by
  simp [List.intercalate]
theorem inter_snoc (s : List UInt8) (l : List (List UInt8)) (x : List UInt8) (h : l ≠ []) : s.intercalate (l ++ [x]) = s.intercalate l ++ s ++ x := by
  induction l with
  | nil => exact absurd rfl h
  | cons a b ih =>
    cases b with
    | nil => simp [List.intercalate]
    | cons c d =>
      rw [List.cons_append, List.cons_append, inter_cons, inter_cons]
      have := ih (by simp)
      rw [List.cons_append] at this
      rw [this]
      simp [List.append_assoc]
theorem jn_snoc (l : List (List UInt8)) (x : List UInt8) : jn (l ++ [x]) = (if l = [] then [] else jn l ++ [32]) ++ qt x := by
  unfold jn
  split
  · rename_i h; subst h; simp [List.intercalate]
  · rename_i h
    rw [List.map_append, List.map_cons, List.map_nil, inter_snoc _ _ _ (by simpa using h)]
theorem cut_jn (l : List (List UInt8)) (h : l ≠ []) : cut 32 (jn l) = l.map qt := by
  have hq : ∀ t, (32 : UInt8) ∉ qt t := fun t hm => by have := qt_fine t 32 hm; simp at this
  induction l with
  | nil => exact absurd rfl h
  | cons a b ih =>
    cases b with
    | nil =>
      have : jn [a] = qt a := by simp [jn, List.intercalate]
      rw [this, cut_one 32 _ (hq a)]
      rfl
    | cons c d =>
      have : jn (a :: c :: d) = qt a ++ 32 :: jn (c :: d) := by
        unfold jn
        rw [List.map_cons, List.map_cons, inter_cons]
        simp
      rw [this, cut_append 32 _ _ (hq a), ih (by simp)]
      rfl
theorem jn_ne (l : List (List UInt8)) (h : l ≠ []) : jn l ≠ [] := by
  intro e
  have := cut_jn l h
  rw [e] at this
  cases l with
  | nil => exact absurd rfl h
  | cons a b =>
    simp only [List.map_cons] at this
    have h2 : cut 32 [] = [[]] := rfl
    rw [h2] at this
    injection this with h3
    exact qt_ne a h3.symm
theorem spl_jn (l : List (List UInt8)) : spl (jn l) = (l, 0, 0) := by
  by_cases h : l = []
  · subst h; rfl
  · have hc := cut_jn l h
    rw [spl_all _ (jn_ne l h), hc]
    · rw [List.map_map]
      have : (tx ∘ qt) = id := by funext t; simp [tx, uq_qt]
      rw [this, List.map_id]
    · rw [hc, List.all_eq_true]
      intro p hp
      obtain ⟨t, _, rfl⟩ := List.mem_map.1 hp
      simp [ok, uq_qt]
theorem jn_len (l : List (List UInt8)) (m : Nat) (h : ∀ t ∈ l, t.length ≤ m) : (jn l).length ≤ l.length * (3 * m + 2) := by
  induction l with
  | nil => simp [jn, List.intercalate]
  | cons a b ih =>
    have ha := (qt_len a).2
    have hm := h a (List.mem_cons_self ..)
    have hi := ih fun t ht => h t (List.mem_cons_of_mem _ ht)
    cases b with
    | nil =>
      have : jn [a] = qt a := by simp [jn, List.intercalate]
      rw [this]; simp; omega
    | cons c d =>
      have : jn (a :: c :: d) = qt a ++ 32 :: jn (c :: d) := by
        unfold jn
        rw [List.map_cons, List.map_cons, inter_cons]
        simp
      rw [this, List.length_append, List.length_cons, List.length_cons (a := a), Nat.succ_mul]
      omega
theorem spl_le (line : List UInt8) : (spl line).1.length ≤ line.length + 1 := by
  unfold spl
  split
  · simp
  · split
    · rw [List.length_map]; exact cut_len _ _
    · simp

/-! ### texts of lines -/
def tl (l : List (List UInt8)) : List UInt8 := (l.map (· ++ [10])).flatten
theorem tl_snoc (l : List (List UInt8)) (x : List UInt8) : tl (l ++ [x]) = tl l ++ (x ++ [10]) := by simp [tl]
theorem tl_cut (l : List UInt8) : tl (cut 10 l) = l ++ [10] := by
  induction l with
  | nil => rfl
  | cons x r ih =>
    unfold cut
    split
    · rename_i h; subst h
      show ([] ++ [10]) ++ tl (cut 10 r) = _
      rw [ih]; rfl
    · cases hc : cut 10 r with
      | nil => exact absurd hc (cut_ne 10 r)
      | cons a b =>
        rw [hc] at ih
        show ((x :: a) ++ [10]) ++ tl b = _
        have : tl (a :: b) = (a ++ [10]) ++ tl b := rfl
        rw [this] at ih
        simp only [List.cons_append, ih]
theorem tl_len (l : List (List UInt8)) (m : Nat) (h : ∀ t ∈ l, t.length ≤ m) : (tl l).length ≤ l.length * (m + 1) := by
  induction l with
  | nil => simp [tl]
  | cons a b ih =>
    have hm := h a (List.mem_cons_self ..)
    have hi := ih fun t ht => h t (List.mem_cons_of_mem _ ht)
    have : tl (a :: b) = (a ++ [10]) ++ tl b := rfl
    rw [this, List.length_append, List.length_append, show (a :: b).length = b.length + 1 from rfl, Nat.succ_mul]
    simp
    omega
def lns (t : List UInt8) : List (List UInt8) × Nat := if t = [] then ([], 0) else if t.getLast? = some 10 then (cut 10 t.dropLast, 0) else ([], 3)
theorem lns_back (t : List UInt8) (h : (lns t).2 = 0) : tl (lns t).1 = t := by
  unfold lns at h ⊢
  split
  · rename_i e; subst e; rfl
  · rename_i e
    rw [if_neg e] at h
    split
    · rename_i e2
      show tl (cut 10 t.dropLast) = t
      rw [tl_cut]
      have e3 : t.getLast e = 10 := by
        rw [List.getLast?_eq_some_getLast e] at e2
        injection e2
      rw [← e3]
      exact List.dropLast_concat_getLast e
    · rename_i e2
      rw [if_neg e2] at h
      simp at h

/-! ### parts of what was handed in -/
theorem take_snoc {α : Type} (l : List α) (k : Nat) (h : k < l.length) : l.take (k + 1) = l.take k ++ [l[k]] := by
  rw [List.take_succ_eq_append_getElem h]

/-! ### the chapter's examples -/
theorem uq_61 : uq [37, 54, 49] = none := by
  unfold uq
  rw [if_neg (by decide), if_neg (by decide), dec_none _ _ (by decide) (by decide +kernel)]
theorem ex_1 : spl [97, 32, 32, 98] = ([], 1, 3) := by
  refine spl_stop _ (by decide) [[97]] [[98]] [] (by decide) ?_ ?_
  · have : uq [97] = some [97] := (uq_iff _ _).2 (by decide +kernel)
    simp [ok, this]
  · simp [ok, uq]
theorem ex_2 : jn [[97, 32, 98], []] = [97, 37, 50, 48, 98, 32, 37] := by decide +kernel
theorem ex_3 : spl [97, 37, 50, 48, 98, 32, 37] = ([[97, 32, 98], []], 0, 0) := by
  rw [← ex_2]; exact spl_jn _
end Go.Proofs.YtfnjnkmdifigdaaDoor.Wrd
