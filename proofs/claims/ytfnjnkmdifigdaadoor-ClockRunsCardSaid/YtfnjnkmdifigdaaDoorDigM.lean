/- Plain mathematics of layer 1: the digits of a number, the number of digits, and their order. No program is spoken of here. -/
import Derived.Below
namespace Go.Proofs.YtfnjnkmdifigdaaDoor.Dig

/-- two numbers are one (behind a name, so that a walk does not rewrite by it) -/
def Same (a b : Nat) : Prop := a = b
def dg (n : Nat) : UInt8 := UInt8.ofNat (48 + n % 10)
def wdF : Nat → Nat → List UInt8
  | 0, _ => []
  | f + 1, n => if n < 10 then [dg n] else wdF f (n / 10) ++ [dg n]
/-- the text of a number below 10^20 -/
def wd (n : Nat) : List UInt8 := wdF 20 n
def isD (c : UInt8) : Bool := decide (48 ≤ c.toNat ∧ c.toNat ≤ 57)
def val (l : List UInt8) : Nat := l.foldl (fun a c => 10 * a + (c.toNat - 48)) 0
def formed (l : List UInt8) : Bool := l.all isD && (decide (l.length = 1) || (decide (1 < l.length) && decide (l.head? ≠ some 48)))
/-- what a text not below 0 is read as; 0 all is well, 3 no number's form, 6 out of range -/
def pw (l : List UInt8) : Nat × Nat := if formed l = true then (if val l < 18446744073709551616 then (val l, 0) else (0, 6)) else (0, 3)
def sgn (n : Nat) (b : Bool) : Int × Bool :=
  if b = true then (if n ≤ 9223372036854775808 then (-(n : Int), true) else (0, false)) else (if n < 9223372036854775808 then ((n : Int), true) else (0, false))
def below (l : List UInt8) : Bool := decide (l.head? = some 45)
def rest (l : List UInt8) : List UInt8 := if below l = true then l.tail else l
def pa (l : List UInt8) : Int × Nat :=
  if below l = true ∧ rest l = [48] then (0, 3) else
  if (pw (rest l)).2 ≠ 0 then (0, (pw (rest l)).2) else
  if (sgn (pw (rest l)).1 (below l)).2 = true then ((sgn (pw (rest l)).1 (below l)).1, 0) else (0, 6)
def wi (n : Int) : List UInt8 := if n < 0 then 45 :: wd n.natAbs else wd n.natAbs
def within (l : List UInt8) (lo hi : Int) : Int × Nat := if (pa l).2 ≠ 0 then (0, (pa l).2) else if (pa l).1 < lo ∨ hi < (pa l).1 then (0, 6) else ((pa l).1, 0)
def fits (n : Int) : Int × Bool := if -9223372036854775808 ≤ n ∧ n ≤ 9223372036854775807 then (n, true) else (0, false)

theorem dg_toNat (n : Nat) : (dg n).toNat = 48 + n % 10 := by
  unfold dg; rw [UInt8.toNat_ofNat']; omega

theorem val_snoc (l : List UInt8) (c : UInt8) : val (l ++ [c]) = 10 * val l + (c.toNat - 48) := by
  unfold val; rw [List.foldl_append]; rfl

theorem val_nil : val [] = 0 := rfl

theorem val_append_ge (l r : List UInt8) : val l ≤ val (l ++ r) := by
  induction r generalizing l with
  | nil => simp
  | cons c r ih =>
    have h := ih (l ++ [c])
    rw [val_snoc] at h
    rw [show l ++ c :: r = (l ++ [c]) ++ r from by simp]
    omega

theorem val_take_le (l : List UInt8) (k : Nat) : val (l.take k) ≤ val l := by
  have h := val_append_ge (l.take k) (l.drop k)
  rwa [List.take_append_drop] at h

theorem val_take_mono (l : List UInt8) (j k : Nat) (h : j ≤ k) : val (l.take j) ≤ val (l.take k) := by
  have e := val_take_le (l.take k) j
  rwa [List.take_take, Nat.min_eq_left h] at e

theorem take_snoc (l : List UInt8) (k : Nat) (h : k < l.length) : l.take (k + 1) = l.take k ++ [l[k]] := by
  rw [List.take_succ_eq_append_getElem h]

/-- a list, its last element apart -/
theorem snoc_cases (l : List UInt8) : l = [] ∨ ∃ r c, l = r ++ [c] := by
  rcases List.eq_nil_or_concat l with h | ⟨r, c, h⟩
  · exact .inl h
  · exact .inr ⟨r, c, by simpa using h⟩

theorem snoc_ind {P : List UInt8 → Prop} (h0 : P []) (h1 : ∀ r c, P r → P (r ++ [c])) : ∀ n (l : List UInt8), l.length = n → P l := by
  intro n
  induction n with
  | zero => intro l h; rw [List.length_eq_zero_iff.1 h]; exact h0
  | succ n ih =>
    intro l h
    rcases snoc_cases l with e | ⟨r, c, e⟩
    · subst e; simp at h
    · subst e; simp at h; exact h1 r c (ih r h)

theorem val_lt_pow (l : List UInt8) (h : l.all isD = true) : val l < 10 ^ l.length := by
  revert h
  refine snoc_ind (P := fun l => l.all isD = true → val l < 10 ^ l.length) (by intro _; simp [val_nil]) ?_ l.length l rfl
  intro r c ih h
  rw [List.all_append, Bool.and_eq_true] at h
  have h1 := ih h.1
  have h2 : 48 ≤ c.toNat ∧ c.toNat ≤ 57 := by simpa [isD] using h.2
  rw [val_snoc, List.length_append, List.length_singleton, Nat.pow_succ]
  omega

theorem val_ge_pow (c : UInt8) (r : List UInt8) (h : 49 ≤ c.toNat) : 10 ^ r.length ≤ val (c :: r) := by
  refine snoc_ind (P := fun r => 10 ^ r.length ≤ val (c :: r)) ?_ ?_ r.length r rfl
  · show 1 ≤ val ([] ++ [c]); rw [val_snoc, val_nil]; omega
  · intro r d ih
    rw [show c :: (r ++ [d]) = (c :: r) ++ [d] from rfl, val_snoc, List.length_append, List.length_singleton, Nat.pow_succ]
    omega

theorem formed_iff (l : List UInt8) : formed l = true ↔ l.all isD = true ∧ (l.length = 1 ∨ (1 < l.length ∧ l.head? ≠ some 48)) := by
  unfold formed; simp

theorem toNat_48 (c : UInt8) : c = 48 ↔ c.toNat = 48 := by
  rw [← UInt8.toNat_inj]; rfl

/-- of more than one digit: the value is at least the power -/
theorem formed_ge (l : List UInt8) (h : formed l = true) (h1 : 1 < l.length) : 10 ^ (l.length - 1) ≤ val l := by
  obtain ⟨ha, hb⟩ := (formed_iff l).1 h
  cases l with
  | nil => simp at h1
  | cons c r =>
    have hc : c.toNat ≠ 48 := by
      rcases hb with hb | ⟨_, hb⟩
      · omega
      · intro e; exact hb (by simp [(toNat_48 c).2 e])
    have hd : 48 ≤ c.toNat ∧ c.toNat ≤ 57 := by
      have := (List.all_eq_true.1 ha) c (by simp)
      simpa [isD] using this
    have := val_ge_pow c r (by omega)
    simpa using this

theorem wdF_all (f n : Nat) : (wdF f n).all isD = true := by
  induction f generalizing n with
  | zero => rfl
  | succ f ih =>
    unfold wdF
    have hd : isD (dg n) = true := by unfold isD; rw [dg_toNat]; exact decide_eq_true (by omega)
    split
    · simp [hd]
    · rw [List.all_append, ih]; simp [hd]

theorem wdF_val (f n : Nat) (h : n < 10 ^ f) : val (wdF f n) = n := by
  induction f generalizing n with
  | zero => have : n = 0 := by simpa using h
            subst this; rfl
  | succ f ih =>
    unfold wdF
    split
    · rw [show [dg n] = [] ++ [dg n] from rfl, val_snoc, val_nil, dg_toNat]; omega
    · rw [val_snoc, ih (n / 10) (by rw [Nat.pow_succ] at h; omega), dg_toNat]; omega

theorem wdF_ne (f n : Nat) : wdF (f + 1) n ≠ [] := by
  unfold wdF; split <;> simp

theorem wdF_head (f n : Nat) (h : n < 10 ^ f) (h0 : 0 < n) : (wdF f n).head? ≠ some 48 := by
  induction f generalizing n with
  | zero => simp at h; omega
  | succ f ih =>
    unfold wdF
    split
    · rename_i h1
      intro e
      have e2 : dg n = 48 := by simpa using e
      have := (toNat_48 _).1 e2
      rw [dg_toNat] at this; omega
    · rename_i h1
      have hq : n / 10 < 10 ^ f := by rw [Nat.pow_succ] at h; omega
      have := ih (n / 10) hq (by omega)
      cases hc : wdF f (n / 10) with
      | nil =>
        cases f with
        | zero => simp at hq; omega
        | succ f => exact absurd hc (wdF_ne f _)
      | cons a r => rw [hc] at this; simpa using this

theorem wd_all (n : Nat) : (wd n).all isD = true := wdF_all 20 n
theorem wd_val (n : Nat) (h : n < 100000000000000000000) : val (wd n) = n := wdF_val 20 n (by simpa using h)

theorem wd_small (n : Nat) (h : n < 10) : wd n = [dg n] := by
  unfold wd wdF; rw [if_pos h]

theorem wd_formed (n : Nat) (h : n < 100000000000000000000) : formed (wd n) = true := by
  rw [formed_iff]
  refine ⟨wd_all n, ?_⟩
  by_cases h1 : n < 10
  · left; rw [wd_small n h1]; rfl
  · right
    refine ⟨?_, wdF_head 20 n (by simpa using h) (by omega)⟩
    have hv := wd_val n h
    have hl := val_lt_pow (wd n) (wd_all n)
    rw [hv] at hl
    cases hc : (wd n).length with
    | zero => rw [hc] at hl; simp at hl; omega
    | succ k =>
      cases k with
      | zero => rw [hc] at hl; simp at hl; omega
      | succ k => omega

/-- more room makes no other text -/
theorem wdF_more (f n : Nat) (h : n < 10 ^ f) (hf : 0 < f) : wdF (f + 1) n = wdF f n := by
  induction f generalizing n with
  | zero => omega
  | succ f ih =>
    by_cases h1 : n < 10
    · unfold wdF; rw [if_pos h1, if_pos h1]
    · cases f with
      | zero => simp at h; omega
      | succ f =>
        show (if n < 10 then [dg n] else wdF (f + 1 + 1) (n / 10) ++ [dg n]) = (if n < 10 then [dg n] else wdF (f + 1) (n / 10) ++ [dg n])
        rw [if_neg h1, if_neg h1, ih (n / 10) (by rw [Nat.pow_succ] at h; omega) (by omega)]

theorem wd_step (n : Nat) (h : n < 100000000000000000000) (h1 : 10 ≤ n) : wd n = wd (n / 10) ++ [dg n] := by
  have e := wdF_more 19 (n / 10) (by simp; omega) (by omega)
  show wdF 20 n = wdF 20 (n / 10) ++ [dg n]
  rw [e, wdF, if_neg (by omega)]

/-- a text of a number's form is that number's text -/
theorem wd_of_formed (l : List UInt8) (h : formed l = true) (hl : l.length ≤ 20) : wd (val l) = l := by
  revert h hl
  refine snoc_ind (P := fun l => formed l = true → l.length ≤ 20 → wd (val l) = l) (by intro h; simp [formed] at h) ?_ l.length l rfl
  intro r c ih h hl
  obtain ⟨ha, hb⟩ := (formed_iff _).1 h
  rw [List.all_append, Bool.and_eq_true] at ha
  have hc : 48 ≤ c.toNat ∧ c.toNat ≤ 57 := by simpa [isD] using ha.2
  have hdg : ∀ m, m % 10 = c.toNat - 48 → dg m = c := by
    intro m hm
    rw [← UInt8.toNat_inj, dg_toNat, hm]; omega
  cases r with
  | nil =>
    have hv : val ([] ++ [c]) = c.toNat - 48 := by rw [val_snoc, val_nil]; omega
    rw [hv, wd_small _ (by omega), hdg _ (by omega)]; rfl
  | cons a r =>
    have hhd : a ≠ 48 := by
      rcases hb with hb | ⟨_, hb⟩
      · simp at hb
      · intro e; exact hb (by simp [e])
    have hr : formed (a :: r) = true := by
      rw [formed_iff]
      refine ⟨ha.1, ?_⟩
      cases r with
      | nil => left; rfl
      | cons b r => right; exact ⟨by simp, by simpa using hhd⟩
    have hlen : (a :: r).length ≤ 19 := by simp at hl ⊢; omega
    have hlt := val_lt_pow (a :: r) ha.1
    have hp : (10 : Nat) ^ (a :: r).length ≤ 10 ^ 19 := Nat.pow_le_pow_right (by omega) hlen
    have ha1 : 1 ≤ val (a :: r) := by
      have hda : 48 ≤ a.toNat ∧ a.toNat ≤ 57 := by
        have := (List.all_eq_true.1 ha.1) a (by simp)
        simpa [isD] using this
      have hne : a.toNat ≠ 48 := fun e => hhd ((toNat_48 a).2 e)
      have := val_ge_pow a r (by omega)
      have hpos : 0 < (10 : Nat) ^ r.length := Nat.pow_pos (by omega)
      omega
    have h19 : (10 : Nat) ^ 19 = 10000000000000000000 := by decide
    rw [h19] at hp
    rw [val_snoc, wd_step _ (by omega) (by omega), hdg _ (by omega)]
    rw [show (10 * val (a :: r) + (c.toNat - 48)) / 10 = val (a :: r) from by omega, ih hr (by omega)]

theorem wd_length_le (n : Nat) : (wd n).length ≤ 20 := by
  have : ∀ f n, (wdF f n).length ≤ f := by
    intro f
    induction f with
    | zero => intro n; simp [wdF]
    | succ f ih => intro n; unfold wdF; split
                   · simp
                   · have := ih (n / 10); simp; omega
  exact this 20 n

theorem formed_len_of_val (l : List UInt8) (h : formed l = true) (hv : val l < 100000000000000000000) : l.length ≤ 20 := by
  by_cases h1 : 1 < l.length
  · have := formed_ge l h h1
    by_cases h2 : l.length ≤ 20
    · exact h2
    · have : (10 : Nat) ^ 20 ≤ 10 ^ (l.length - 1) := Nat.pow_le_pow_right (by omega) (by omega)
      simp at this; omega
  · omega

/-! ### the order of texts -/
theorem less_iff (a b : List UInt8) (ha : a.all isD = true) (hb : b.all isD = true) (hl : a.length = b.length) (x : Nat) :
    (Op.bytesLess a b = true ↔ a.foldl (fun a c => 10 * a + (c.toNat - 48)) x < b.foldl (fun a c => 10 * a + (c.toNat - 48)) x) := by
  have key : ∀ (a b : List UInt8), a.all isD = true → b.all isD = true → a.length = b.length → ∀ x y, x < y → a.foldl (fun a c => 10 * a + (c.toNat - 48)) x < b.foldl (fun a c => 10 * a + (c.toNat - 48)) y := by
    intro a
    induction a with
    | nil => intro b _ _ h x y hxy; cases b with
             | nil => exact hxy
             | cons _ _ => simp at h
    | cons c a ih =>
      intro b h1 h2 h3 x y hxy
      cases b with
      | nil => simp at h3
      | cons d b =>
        simp only [List.all_cons, Bool.and_eq_true] at h1 h2
        have hc : 48 ≤ c.toNat ∧ c.toNat ≤ 57 := by simpa [isD] using h1.1
        have hd : 48 ≤ d.toNat ∧ d.toNat ≤ 57 := by simpa [isD] using h2.1
        exact ih b h1.2 h2.2 (by simpa using h3) _ _ (by show 10 * x + _ < 10 * y + _; omega)
  induction a generalizing b x with
  | nil => cases b with
           | nil => simp [Op.bytesLess]
           | cons _ _ => simp at hl
  | cons c a ih =>
    cases b with
    | nil => simp at hl
    | cons d b =>
      simp only [List.all_cons, Bool.and_eq_true] at ha hb
      have hc : 48 ≤ c.toNat ∧ c.toNat ≤ 57 := by simpa [isD] using ha.1
      have hd : 48 ≤ d.toNat ∧ d.toNat ≤ 57 := by simpa [isD] using hb.1
      have hl' : a.length = b.length := by simpa using hl
      simp only [Op.bytesLess, List.foldl_cons]
      by_cases e1 : c.toNat < d.toNat
      · have : c < d := by rw [UInt8.lt_iff_toNat_lt]; exact e1
        simp only [this, decide_true, Bool.true_or, true_iff]
        exact key a b ha.2 hb.2 hl' _ _ (by omega)
      · by_cases e2 : d.toNat < c.toNat
        · have n1 : ¬ c < d := by rw [UInt8.lt_iff_toNat_lt]; omega
          have n2 : ¬ c = d := by intro e; subst e; omega
          have := key b a hb.2 ha.2 hl'.symm (10 * x + (d.toNat - 48)) (10 * x + (c.toNat - 48)) (by omega)
          simp [n1, n2]; omega
        · have : c = d := by rw [← UInt8.toNat_inj]; omega
          subst this
          have n1 : ¬ c < c := by rw [UInt8.lt_iff_toNat_lt]; omega
          have := ih b ha.2 hb.2 hl' (10 * x + (c.toNat - 48))
          simp [n1, this]

theorem less_val (a b : List UInt8) (ha : a.all isD = true) (hb : b.all isD = true) (hl : a.length = b.length) :
    Op.bytesLess a b = decide (val a < val b) := by
  rw [Bool.eq_iff_iff, decide_eq_true_iff]; exact less_iff a b ha hb hl 0

theorem val_lt_of_len (a b : List UInt8) (ha : formed a = true) (hb : formed b = true) (hl : a.length < b.length) : val a < val b := by
  obtain ⟨h1, h1'⟩ := (formed_iff a).1 ha
  have h2 := val_lt_pow a h1
  have h3 := formed_ge b hb (by omega)
  have : (10 : Nat) ^ a.length ≤ 10 ^ (b.length - 1) := Nat.pow_le_pow_right (by omega) (by omega)
  omega

/-- of two numbers the greater has the longer text, or, of one length, the one behind -/
theorem wd_order (a b : Nat) (ha : a < 100000000000000000000) (hb : b < 100000000000000000000) :
    (a < b) ↔ ((wd a).length < (wd b).length ∨ ((wd a).length = (wd b).length ∧ Op.bytesLess (wd a) (wd b) = true)) := by
  have va := wd_val a ha
  have vb := wd_val b hb
  have fa := wd_formed a ha
  have fb := wd_formed b hb
  rcases Nat.lt_trichotomy (wd a).length (wd b).length with h | h | h
  · have := val_lt_of_len _ _ fa fb h
    rw [va, vb] at this
    simp [h, this]
  · rw [less_val _ _ (wd_all a) (wd_all b) h, va, vb]
    simp [h]
  · have := val_lt_of_len _ _ fb fa h
    rw [va, vb] at this
    constructor
    · intro; omega
    · rintro (h' | ⟨h', _⟩) <;> omega

/-! ### sums and products -/
theorem sgn_t (n : Nat) (h : n ≤ 9223372036854775808) : sgn n true = (-(n : Int), true) := by unfold sgn; rw [if_pos rfl, if_pos h]
theorem sgn_tn (n : Nat) (h : ¬ n ≤ 9223372036854775808) : sgn n true = (0, false) := by unfold sgn; rw [if_pos rfl, if_neg h]
theorem sgn_f (n : Nat) (h : n < 9223372036854775808) : sgn n false = ((n : Int), true) := by unfold sgn; rw [if_neg (by decide), if_pos h]
theorem sgn_fn (n : Nat) (h : ¬ n < 9223372036854775808) : sgn n false = (0, false) := by unfold sgn; rw [if_neg (by decide), if_neg h]

theorem fits_in (n : Int) (h : -9223372036854775808 ≤ n ∧ n ≤ 9223372036854775807) : fits n = (n, true) := by unfold fits; rw [if_pos h]
theorem fits_out (n : Int) (h : ¬ (-9223372036854775808 ≤ n ∧ n ≤ 9223372036854775807)) : fits n = (0, false) := by unfold fits; rw [if_neg h]

theorem mul_sign (a b : Int) : a * b = if (decide (a < 0) != decide (b < 0)) = true then -((a.natAbs * b.natAbs : Nat) : Int) else ((a.natAbs * b.natAbs : Nat) : Int) := by
  obtain ⟨x, rfl | rfl⟩ := Int.eq_nat_or_neg a <;> obtain ⟨y, rfl | rfl⟩ := Int.eq_nat_or_neg b
  all_goals
    simp only [Int.natAbs_neg, Int.natAbs_natCast]
    by_cases hx : x = 0
    · subst hx; simp
    · by_cases hy : y = 0
      · subst hy; simp
      · have h1 : ¬ ((x : Int) < 0) := by omega
        have h2 : ¬ ((y : Int) < 0) := by omega
        have h3 : (-(x : Int) < 0) := by omega
        have h4 : (-(y : Int) < 0) := by omega
        simp only [decide_eq_false h1, decide_eq_false h2, decide_eq_true h3, decide_eq_true h4]
        simp [Int.neg_mul, Int.mul_neg]

theorem sgn_mul (a b : Int) (h : a.natAbs * b.natAbs < 18446744073709551616) : sgn (a.natAbs * b.natAbs) (decide (a < 0) != decide (b < 0)) = fits (a * b) := by
  have hm := mul_sign a b
  generalize a.natAbs * b.natAbs = n at *
  generalize a * b = p at *
  cases hb : (decide (a < 0) != decide (b < 0)) with
  | true =>
    rw [hb, if_pos rfl] at hm
    by_cases h1 : n ≤ 9223372036854775808
    · rw [sgn_t n h1, fits_in _ (by omega), hm]
    · rw [sgn_tn n h1, fits_out _ (by omega)]
  | false =>
    rw [hb, if_neg (by simp)] at hm
    by_cases h1 : n < 9223372036854775808
    · rw [sgn_f n h1, fits_in _ (by omega), hm]
    · rw [sgn_fn n h1, fits_out _ (by omega)]

theorem fits_mul_div (a b : Int) (x y M : Nat) (ha : a.natAbs = x) (hb : b.natAbs = y) (hM : M = if (decide (a < 0) != decide (b < 0)) = true then 9223372036854775808 else 9223372036854775807) :
    (x = 0 ∨ ¬ M / x < y → fits (a * b) = (a * b, true) ∧ -9223372036854775808 ≤ a * b ∧ a * b ≤ 9223372036854775807) ∧ (0 < x → M / x < y → fits (a * b) = (0, false)) := by
  have hm := mul_sign a b
  rw [ha, hb] at hm
  have key : x * y ≤ M → fits (a * b) = (a * b, true) ∧ -9223372036854775808 ≤ a * b ∧ a * b ≤ 9223372036854775807 := by
    intro h
    have hr : -9223372036854775808 ≤ a * b ∧ a * b ≤ 9223372036854775807 := by
      generalize a * b = p at *
      generalize x * y = n at *
      cases hc : (decide (a < 0) != decide (b < 0)) <;> rw [hc] at hm hM <;> simp at hm hM <;> omega
    exact ⟨fits_in _ hr, hr⟩
  refine ⟨fun h => ?_, fun h0 h => ?_⟩
  · apply key
    rcases h with h | h
    · subst h; simp
    · by_cases h0 : x = 0
      · subst h0; simp
      · have := Nat.div_lt_iff_lt_mul (x := M) (y := y) (k := x) (by omega)
        have h2 : ¬ M < y * x := fun e => h (this.2 e)
        rw [Nat.mul_comm] at h2; omega
  · have h2 : M < y * x := (Nat.div_lt_iff_lt_mul h0).1 h
    rw [Nat.mul_comm] at h2
    apply fits_out
    generalize a * b = p at *
    generalize x * y = n at *
    cases hc : (decide (a < 0) != decide (b < 0)) <;> rw [hc] at hm hM <;> simp at hm hM <;> omega

theorem fits_mul_out (a b : Int) (h : 18446744073709551616 ≤ a.natAbs * b.natAbs) : fits (a * b) = (0, false) := by
  have hm := mul_sign a b
  apply fits_out
  generalize a.natAbs * b.natAbs = n at *
  rw [hm]
  split <;> omega

/-! ### a text's places -/
theorem wd_len_step (n : Nat) (h : n < 100000000000000000000) (h1 : 10 ≤ n) : (wd n).length = (wd (n / 10)).length + 1 := by
  rw [wd_step n h h1]; simp
theorem wd_len_small (n : Nat) (h : n < 10) : (wd n).length = 1 := by rw [wd_small n h]; rfl
theorem wd_len_pos (n : Nat) : 1 ≤ (wd n).length := by
  have := wdF_ne 19 n
  have h : wd n ≠ [] := this
  have := List.length_pos_iff.2 h
  omega

theorem wd_get (k : Nat) : ∀ n, n < 100000000000000000000 → k < (wd n).length → (wd n)[(wd n).length - 1 - k]? = some (dg (n / 10 ^ k)) := by
  induction k with
  | zero =>
    intro n h hk
    by_cases h1 : n < 10
    · rw [wd_small n h1]; simp
    · rw [wd_step n h (by omega)]; simp
  | succ k ih =>
    intro n h hk
    by_cases h1 : n < 10
    · rw [wd_len_small n h1] at hk; omega
    · have hs := wd_len_step n h (by omega)
      have := ih (n / 10) (by omega) (by omega)
      rw [Nat.div_div_eq_div_mul, ← Nat.pow_succ'] at this
      rw [← this, hs]
      conv => lhs; rw [wd_step n h (by omega)]
      rw [List.getElem?_append_left (by omega)]
      congr 1; omega

/-- what is written from behind while the number that is left shrinks -/
def Tail (n m : Nat) (l : List UInt8) : Prop := (m < 10 → l = wd n) ∧ (10 ≤ m → wd n = wd (m / 10) ++ l)
theorem Tail_start (n : Nat) (h : n < 100000000000000000000) : Tail n n [dg n] :=
  ⟨fun h1 => (wd_small n h1).symm, fun h1 => wd_step n h h1⟩
theorem Tail_next (n m : Nat) (l : List UInt8) (h : m < 100000000000000000000) (h1 : 10 ≤ m) (t : Tail n m l) : Tail n (m / 10) (dg (m / 10) :: l) := by
  have e := t.2 h1
  refine ⟨fun h2 => ?_, fun h2 => ?_⟩
  · rw [e, wd_small _ h2]; rfl
  · rw [e, wd_step (m / 10) (by omega) h2]; simp
theorem Tail_len (n m : Nat) (l : List UInt8) (t : Tail n m l) : l.length ≤ 20 := by
  have hl := wd_length_le n
  by_cases h : m < 10
  · rw [t.1 h]; exact hl
  · have e := t.2 (by omega)
    rw [e, List.length_append] at hl; omega

/-- what is written after k rounds, from behind -/
def part (l : List UInt8) (k : Nat) : List UInt8 := List.replicate (l.length - k) 0 ++ l.drop (l.length - k)
theorem part_zero (l : List UInt8) : part l 0 = List.replicate l.length 0 := by unfold part; simp
theorem part_all (l : List UInt8) : part l l.length = l := by unfold part; simp
theorem part_len (l : List UInt8) (k : Nat) : (part l k).length = l.length := by
  unfold part; simp
theorem part_set (l : List UInt8) (k : Nat) (hk : k < l.length) (c : UInt8) (hc : l[l.length - 1 - k]? = some c) : (part l k).set (l.length - 1 - k) c = part l (k + 1) := by
  apply List.ext_getElem?
  intro i
  unfold part
  rw [List.getElem?_set]
  simp only [List.getElem?_append, List.length_append, List.length_replicate, List.length_drop, List.getElem?_replicate, List.getElem?_drop]
  by_cases h1 : l.length - 1 - k = i
  · subst h1
    rw [if_pos rfl, if_pos (by omega), if_neg (by omega)]
    rw [← hc]; congr 1; omega
  · rw [if_neg h1]
    by_cases h2 : i < l.length - (k + 1)
    · rw [if_pos (by omega), if_pos (by omega), if_pos (by omega), if_pos (by omega)]
    · rw [if_neg (by omega), if_neg (by omega)]
      congr 1; omega

/-! ### what is read, what is written -/
theorem pw_wd (n : Nat) (h : n < 18446744073709551616) : pw (wd n) = (n, 0) := by
  unfold pw; rw [if_pos (wd_formed n (by omega)), wd_val n (by omega), if_pos h]

theorem pw_back (l : List UInt8) (h : (pw l).2 = 0) : wd (pw l).1 = l ∧ (pw l).1 < 18446744073709551616 := by
  unfold pw at h ⊢
  split
  · rename_i hf
    rw [if_pos hf] at h
    split
    · rename_i hv
      exact ⟨wd_of_formed l hf (formed_len_of_val l hf (by omega)), hv⟩
    · rename_i hv; rw [if_neg hv] at h; simp at h
  · rename_i hf; rw [if_neg hf] at h; simp at h

/-! ### the greatest number's text -/
def top : List UInt8 := [49, 56, 52, 52, 54, 55, 52, 52, 48, 55, 51, 55, 48, 57, 53, 53, 49, 54, 49, 53]
theorem top_val : val top = 18446744073709551615 := by decide +kernel
theorem top_formed : formed top = true := by decide +kernel

theorem pw_long (l : List UInt8) (h : formed l = true) (hl : 20 < l.length) : pw l = (0, 6) := by
  have := formed_ge l h (by omega)
  have h2 : (10 : Nat) ^ 20 ≤ 10 ^ (l.length - 1) := Nat.pow_le_pow_right (by omega) (by omega)
  have h3 : (10 : Nat) ^ 20 = 100000000000000000000 := by decide
  rw [h3] at h2
  unfold pw; rw [if_pos h, if_neg (by omega)]

theorem pw_short (l : List UInt8) (h : formed l = true) (hl : l.length < 20) : val l < 18446744073709551616 := by
  have := val_lt_pow l ((formed_iff l).1 h).1
  have h2 : (10 : Nat) ^ l.length ≤ 10 ^ 19 := Nat.pow_le_pow_right (by omega) (by omega)
  have h3 : (10 : Nat) ^ 19 = 10000000000000000000 := by decide
  rw [h3] at h2
  omega

theorem less_top (l : List UInt8) (h : formed l = true) (hl : l.length = 20) : Op.bytesLess l top = decide (val l < 18446744073709551615) := by
  rw [less_val l top ((formed_iff l).1 h).1 ((formed_iff top).1 top_formed).1 (by rw [hl]; rfl), top_val]

theorem same_top (l : List UInt8) (h : formed l = true) (hl : l.length = 20) : (l == top) = decide (val l = 18446744073709551615) := by
  rw [Bool.eq_iff_iff, beq_iff_eq, decide_eq_true_iff]
  constructor
  · intro e; rw [e]; exact top_val
  · intro e
    rw [← wd_of_formed l h (by omega), ← wd_of_formed top top_formed (by decide), e, top_val]

theorem wd_head (n : Nat) : (wd n).head? ≠ some 45 := by
  intro e
  cases hc : wd n with
  | nil => rw [hc] at e; simp at e
  | cons a r =>
    have h := wd_all n
    rw [hc] at h e
    have ha : 48 ≤ a.toNat ∧ a.toNat ≤ 57 := by
      have := (List.all_eq_true.1 h) a (by simp)
      simpa [isD] using this
    have : a = 45 := by simpa using e
    subst this
    simp at ha

theorem wd_zero (n : Nat) (h : n < 100000000000000000000) (e : wd n = [48]) : n = 0 := by
  have := wd_val n h
  rw [e] at this; exact this.symm

theorem pa_form (l : List UInt8) (h1 : ¬ (below l = true ∧ rest l = [48])) (h2 : (pw (rest l)).2 ≠ 0) : pa l = (0, (pw (rest l)).2) := by
  unfold pa; rw [if_neg h1, if_pos h2]
theorem pa_nought (l : List UInt8) (h1 : below l = true ∧ rest l = [48]) : pa l = (0, 3) := by
  unfold pa; rw [if_pos h1]
theorem pa_num (l : List UInt8) (h1 : ¬ (below l = true ∧ rest l = [48])) (h2 : (pw (rest l)).2 = 0) (h3 : (sgn (pw (rest l)).1 (below l)).2 = true) : pa l = ((sgn (pw (rest l)).1 (below l)).1, 0) := by
  unfold pa; rw [if_neg h1, if_neg (by omega), if_pos h3]
theorem pa_out (l : List UInt8) (h1 : ¬ (below l = true ∧ rest l = [48])) (h2 : (pw (rest l)).2 = 0) (h3 : ¬ (sgn (pw (rest l)).1 (below l)).2 = true) : pa l = (0, 6) := by
  unfold pa; rw [if_neg h1, if_neg (by omega), if_neg h3]

theorem pa_wi (n : Int) (h1 : -9223372036854775808 ≤ n) (h2 : n ≤ 9223372036854775807) : pa (wi n) = (n, 0) := by
  have hw := pw_wd n.natAbs (by omega)
  unfold wi
  by_cases h : n < 0
  · rw [if_pos h]
    have hb : below (45 :: wd n.natAbs) = true := rfl
    have hr : rest (45 :: wd n.natAbs) = wd n.natAbs := rfl
    have hz : wd n.natAbs ≠ [48] := fun e => by have := wd_zero _ (by omega) e; omega
    have hs := sgn_t n.natAbs (by omega)
    rw [pa_num _ (by rw [hr]; exact fun e => hz e.2) (by rw [hr, hw]) (by rw [hr, hw, hb, hs]), hr, hw, hb, hs]
    simp only [Prod.mk.injEq, and_true]; omega
  · rw [if_neg h]
    have hb : below (wd n.natAbs) = false := by unfold below; exact decide_eq_false (wd_head _)
    have hr : rest (wd n.natAbs) = wd n.natAbs := by unfold rest; rw [hb]; rfl
    have hs := sgn_f n.natAbs (by omega)
    rw [pa_num _ (by rw [hb]; simp) (by rw [hr, hw]) (by rw [hr, hw, hb, hs]), hr, hw, hb, hs]
    simp only [Prod.mk.injEq, and_true]; omega

theorem pa_back (l : List UInt8) (h : (pa l).2 = 0) : wi (pa l).1 = l ∧ -9223372036854775808 ≤ (pa l).1 ∧ (pa l).1 ≤ 9223372036854775807 := by
  by_cases h1 : below l = true ∧ rest l = [48]
  · rw [pa_nought l h1] at h; simp at h
  · by_cases h2 : (pw (rest l)).2 ≠ 0
    · rw [pa_form l h1 h2] at h; exact absurd h h2
    · obtain ⟨hw, hlt⟩ := pw_back (rest l) (by omega)
      by_cases hb : below l = true
      · have hl : l = 45 :: rest l := by
          unfold rest; rw [if_pos hb]
          unfold below at hb
          cases l with
          | nil => simp at hb
          | cons a r => simp at hb; subst hb; rfl
        by_cases h3 : (pw (rest l)).1 ≤ 9223372036854775808
        · have hs := sgn_t _ h3
          have h0 : (pw (rest l)).1 ≠ 0 := by
            intro e
            rw [e] at hw
            exact h1 ⟨hb, hw.symm⟩
          have hp := pa_num l h1 (by omega) (by rw [hb, hs])
          rw [hb, hs] at hp
          rw [hp]
          refine ⟨?_, by simp only []; omega, by simp only []; omega⟩
          show wi (-((pw (rest l)).1 : Int)) = l
          unfold wi
          rw [if_pos (by omega), show (-((pw (rest l)).1 : Int)).natAbs = (pw (rest l)).1 from by omega, hw]
          exact hl.symm
        · rw [pa_out l h1 (by omega) (by rw [hb, sgn_tn _ h3]; simp)] at h; simp at h
      · have hl : rest l = l := by unfold rest; rw [if_neg hb]
        have hb' : below l = false := by simpa using hb
        by_cases h3 : (pw (rest l)).1 < 9223372036854775808
        · have hs := sgn_f _ h3
          have hp := pa_num l h1 (by omega) (by rw [hb', hs])
          rw [hb', hs] at hp
          rw [hp]
          refine ⟨?_, by simp only []; omega, by simp only []; omega⟩
          show wi ((pw (rest l)).1 : Int) = l
          unfold wi
          rw [if_neg (by omega), show ((pw (rest l)).1 : Int).natAbs = (pw (rest l)).1 from by omega, hw]
          exact hl
        · rw [pa_out l h1 (by omega) (by rw [hb', sgn_fn _ h3]; simp)] at h; simp at h
end Go.Proofs.YtfnjnkmdifigdaaDoor.Dig
