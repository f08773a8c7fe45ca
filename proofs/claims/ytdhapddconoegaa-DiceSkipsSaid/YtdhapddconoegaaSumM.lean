/- Mathematics of layer 4 (sum): the register of a sum, sealed bytes, bursts; numbers that are stirred. Nothing of a program is spoken of here. -/
namespace Go.Proofs.Ytdhapddconoegaa.Sum

/-! ### the register: one bit -/
def P : Nat := 3988292384
def S (c : Nat) : Nat := (c / 2) ^^^ (if c % 2 = 1 then P else 0)
theorem S_even (c : Nat) (h : c % 2 = 0) : S c = c / 2 := by unfold S; rw [if_neg (by omega), Nat.xor_zero]
theorem S_odd (c : Nat) (h : c % 2 = 1) : S c = (c / 2) ^^^ P := by unfold S; rw [if_pos h]
theorem xor_div2 (a b : Nat) : (a ^^^ b) / 2 = (a / 2) ^^^ (b / 2) := by
  have := Nat.shiftRight_xor_distrib (a := a) (b := b) (i := 1)
  simpa [Nat.shiftRight_eq_div_pow] using this
theorem xor_swap (a b c d : Nat) : (a ^^^ b) ^^^ (c ^^^ d) = (a ^^^ c) ^^^ (b ^^^ d) := by
  rw [Nat.xor_assoc, Nat.xor_assoc, ← Nat.xor_assoc b c d, Nat.xor_comm b c, Nat.xor_assoc c b d]
theorem xor_mod2 (a b : Nat) : (a ^^^ b) % 2 = (a + b) % 2 := by
  have h := Nat.testBit_xor a b 0
  rw [Nat.testBit_zero, Nat.testBit_zero, Nat.testBit_zero] at h
  have h1 := Nat.mod_two_eq_zero_or_one a
  have h2 := Nat.mod_two_eq_zero_or_one b
  have h3 := Nat.mod_two_eq_zero_or_one (a ^^^ b)
  rcases h1 with h1 | h1 <;> rcases h2 with h2 | h2 <;> rcases h3 with h3 | h3 <;> simp [h1, h2, h3] at h <;> omega
theorem S_xor (a b : Nat) : S (a ^^^ b) = S a ^^^ S b := by
  have h2 := xor_mod2 a b
  unfold S
  rw [xor_div2, h2, xor_swap]
  congr 1
  rcases Nat.mod_two_eq_zero_or_one a with ha | ha <;> rcases Nat.mod_two_eq_zero_or_one b with hb | hb
  · rw [if_neg (by omega), if_neg (by omega), if_neg (by omega), Nat.xor_self]
  · rw [if_pos (by omega), if_neg (by omega), if_pos (by omega), Nat.zero_xor]
  · rw [if_pos (by omega), if_pos (by omega), if_neg (by omega), Nat.xor_zero]
  · rw [if_neg (by omega), if_pos (by omega), if_pos (by omega), Nat.xor_self]
theorem S_zero : S 0 = 0 := rfl
theorem S_two (q : Nat) : S (2 * q) = q := by rw [S_even _ (by omega)]; omega
theorem P_lt : P < 2 ^ 32 := by decide
theorem S_lt (c : Nat) (h : c < 2 ^ 32) : S c < 2 ^ 32 := by
  unfold S
  refine Nat.xor_lt_two_pow (by omega) ?_
  split
  · exact P_lt
  · decide
theorem S_eq_zero (c : Nat) (h : c < 2 ^ 32) (h0 : S c = 0) : c = 0 := by
  rcases Nat.mod_two_eq_zero_or_one c with hc | hc
  · rw [S_even _ hc] at h0; omega
  · rw [S_odd _ hc] at h0
    have h1 : c / 2 = P := by
      have := congrArg (· ^^^ P) h0
      simpa [Nat.xor_assoc] using this
    unfold P at h1
    omega

/-! ### so many bits -/
def sh : Nat → Nat → Nat
  | 0, c => c
  | k + 1, c => sh k (S c)
theorem sh_xor (k a b : Nat) : sh k (a ^^^ b) = sh k a ^^^ sh k b := by
  induction k generalizing a b with
  | zero => rfl
  | succ k ih => rw [sh, sh, sh, S_xor, ih]
theorem sh_zero (k : Nat) : sh k 0 = 0 := by
  induction k with
  | zero => rfl
  | succ k ih => rw [sh, S_zero, ih]
theorem sh_add (j k c : Nat) : sh (j + k) c = sh k (sh j c) := by
  induction j generalizing c with
  | zero => rw [Nat.zero_add]; rfl
  | succ j ih => rw [Nat.add_right_comm, sh, sh, ih]
theorem sh_pow (k q : Nat) : sh k (2 ^ k * q) = q := by
  induction k generalizing q with
  | zero => rw [sh]; omega
  | succ k ih => rw [sh, Nat.pow_succ, Nat.mul_comm (2 ^ k) 2, Nat.mul_assoc, S_two, ih]
theorem sh_lt (k c : Nat) (h : c < 2 ^ 32) : sh k c < 2 ^ 32 := by
  induction k generalizing c with
  | zero => exact h
  | succ k ih => exact ih _ (S_lt c h)
theorem sh_eq_zero (k c : Nat) (h : c < 2 ^ 32) (h0 : sh k c = 0) : c = 0 := by
  induction k generalizing c with
  | zero => exact h0
  | succ k ih => exact S_eq_zero c h (ih _ (S_lt c h) h0)
/-- a number that begins at bit k beside one that ends there -/
theorem xor_low (k a b : Nat) (h : a < 2 ^ k) : a ^^^ (2 ^ k * b) = 2 ^ k * b + a := by
  apply Nat.eq_of_testBit_eq
  intro i
  rw [Nat.testBit_xor, Nat.testBit_two_pow_mul_add b h, Nat.testBit_two_pow_mul]
  by_cases hi : i < k
  · rw [if_pos hi]
    have : ¬ i ≥ k := by omega
    simp [this]
  · rw [if_neg hi]
    have hk : i ≥ k := by omega
    have h2 : a.testBit i = false := Nat.testBit_lt_two_pow (Nat.lt_of_lt_of_le h (Nat.pow_le_pow_right (by decide) hk))
    simp [h2, hk]

/-! ### bytes -/
def by8 (c : Nat) (x : UInt8) : Nat := sh 8 (c ^^^ x.toNat)
def reg (c : Nat) (l : List UInt8) : Nat := l.foldl by8 c
def num : List UInt8 → Nat
  | [] => 0
  | x :: r => x.toNat + 256 * num r
theorem reg_nil (c : Nat) : reg c [] = c := rfl
theorem reg_cons (c : Nat) (x : UInt8) (r : List UInt8) : reg c (x :: r) = reg (by8 c x) r := rfl
theorem reg_append (c : Nat) (a b : List UInt8) : reg c (a ++ b) = reg (reg c a) b := by unfold reg; rw [List.foldl_append]
theorem reg_snoc (c : Nat) (a : List UInt8) (x : UInt8) : reg c (a ++ [x]) = by8 (reg c a) x := by rw [reg_append]; rfl
theorem reg_lt (c : Nat) (l : List UInt8) (h : c < 2 ^ 32) : reg c l < 2 ^ 32 := by
  induction l generalizing c with
  | nil => exact h
  | cons x r ih =>
    refine ih _ (sh_lt _ _ (Nat.xor_lt_two_pow h ?_))
    have := x.toNat_lt
    omega
theorem by8_num (c : Nat) (x : UInt8) (m : Nat) : sh 8 (c ^^^ (x.toNat + 256 * m)) = by8 c x ^^^ m := by
  have hx := x.toNat_lt
  have := xor_low 8 x.toNat m (by omega)
  rw [show x.toNat + 256 * m = x.toNat ^^^ (2 ^ 8 * m) by rw [this]; omega, ← Nat.xor_assoc, sh_xor, sh_pow]
  rfl
theorem reg_sh (c : Nat) (l : List UInt8) : reg c l = sh (8 * l.length) (c ^^^ num l) := by
  induction l generalizing c with
  | nil => rw [reg_nil, num, Nat.xor_zero]; rfl
  | cons x r ih =>
    rw [reg_cons, ih, num, List.length_cons, show 8 * (r.length + 1) = 8 + 8 * r.length by omega, sh_add, by8_num]

def ones : Nat := 4294967295
theorem ones_lt : ones < 2 ^ 32 := by decide
def more (c : Nat) (l : List UInt8) : Nat := reg (c ^^^ ones) l ^^^ ones
def crc (l : List UInt8) : Nat := more 0 l
theorem more_lt (c : Nat) (l : List UInt8) (h : c < 2 ^ 32) : more c l < 2 ^ 32 := Nat.xor_lt_two_pow (reg_lt _ _ (Nat.xor_lt_two_pow h ones_lt)) ones_lt
theorem crc_lt (l : List UInt8) : crc l < 2 ^ 32 := more_lt 0 l (by decide)
theorem crc_reg (l : List UInt8) : crc l = reg ones l ^^^ ones := by unfold crc more; rw [Nat.zero_xor]
/-- a sum goes on from wherever it was -/
theorem more_more (c : Nat) (a b : List UInt8) : more (more c a) b = more c (a ++ b) := by
  unfold more
  rw [Nat.xor_assoc, Nat.xor_self, Nat.xor_zero, reg_append]
theorem more_crc (a b : List UInt8) : more (crc a) b = crc (a ++ b) := more_more 0 a b
theorem more_nil (c : Nat) : more c [] = c := by unfold more; rw [reg_nil, Nat.xor_assoc, Nat.xor_self, Nat.xor_zero]

/-! ### sealed bytes -/
def le4 (n : Nat) : List UInt8 := [UInt8.ofNat (n % 256), UInt8.ofNat (n / 256 % 256), UInt8.ofNat (n / 65536 % 256), UInt8.ofNat (n / 16777216 % 256)]
def seal_ (l : List UInt8) : List UInt8 := l ++ le4 (crc l)
theorem le4_len (n : Nat) : (le4 n).length = 4 := rfl
theorem toNat_of (n : Nat) (h : n < 256) : (UInt8.ofNat n).toNat = n := by
  rw [UInt8.toNat_ofNat']
  exact Nat.mod_eq_of_lt (by omega)
theorem num_le4 (n : Nat) (h : n < 2 ^ 32) : num (le4 n) = n := by
  unfold le4
  rw [num, num, num, num, num, toNat_of _ (by omega), toNat_of _ (by omega), toNat_of _ (by omega), toNat_of _ (by omega)]
  omega
theorem seal_len (l : List UInt8) : (seal_ l).length = l.length + 4 := by unfold seal_; rw [List.length_append, le4_len]
/-- what a register that has gone over sealed bytes is -/
theorem reg_seal (l : List UInt8) : reg ones (seal_ l) = sh 32 ones := by
  unfold seal_
  rw [reg_append, reg_sh (reg ones l), num_le4 _ (crc_lt l), crc_reg, ← Nat.xor_assoc, Nat.xor_self, Nat.zero_xor]
  rfl
/-- the bytes, if they are sealed -/
def open_ (b : List UInt8) : List UInt8 × Int :=
  if b.length < 4 then ([], 4) else if seal_ (b.take (b.length - 4)) = b then (b.take (b.length - 4), 0) else ([], 27)
theorem open_seal (l : List UInt8) : open_ (seal_ l) = (l, 0) := by
  unfold open_
  have e : (seal_ l).take ((seal_ l).length - 4) = l := by
    rw [seal_len, Nat.add_sub_cancel]
    unfold seal_
    exact List.take_left
  rw [if_neg (by rw [seal_len]; omega), e, if_pos rfl]
theorem open_reg (b : List UInt8) (h : (open_ b).2 = 0) : reg ones b = sh 32 ones := by
  unfold open_ at h
  split at h
  · exact absurd h (by decide)
  · split at h
    · rename_i h2
      rw [← h2]
      exact reg_seal _
    · exact absurd h (by decide)

/-! ### bursts -/
theorem num_lt (l : List UInt8) : num l < 2 ^ (8 * l.length) := by
  induction l with
  | nil => decide
  | cons x r ih =>
    have hx := x.toNat_lt
    rw [num, List.length_cons, show 8 * (r.length + 1) = 8 * r.length + 8 by omega, Nat.pow_add]
    omega
theorem num_inj (a b : List UInt8) (hl : a.length = b.length) (h : num a = num b) : a = b := by
  induction a generalizing b with
  | nil => exact (List.eq_nil_of_length_eq_zero hl.symm).symm
  | cons x r ih =>
    match b, hl with
    | y :: q, hl =>
      rw [num, num] at h
      have hx := x.toNat_lt
      have hy := y.toNat_lt
      have e1 : x = y := UInt8.toNat_inj.1 (by omega)
      have e2 := ih q (by simpa using hl) (by omega)
      rw [e1, e2]
/-- of bytes of which a burst of at most 32 bits is turned no register comes to the same -/
theorem burst (a b : List UInt8) (hl : a.length = b.length) (f t : Nat) (ht : t < 2 ^ 32) (h : num a ^^^ num b = 2 ^ f * t) (hf : f ≤ 8 * a.length) (hr : reg ones a = reg ones b) : a = b := by
  rw [reg_sh, reg_sh, hl] at hr
  have h0 : sh (8 * b.length) (num a ^^^ num b) = 0 := by
    rw [sh_xor] at hr ⊢
    rw [sh_xor] at hr
    have := congrArg (sh (8 * b.length) ones ^^^ ·) hr
    simp only [← Nat.xor_assoc, Nat.xor_self, Nat.zero_xor] at this
    rw [this, Nat.xor_self]
  rw [h, show 8 * b.length = f + (8 * b.length - f) by omega, sh_add, sh_pow] at h0
  have ht0 := sh_eq_zero _ _ ht h0
  rw [ht0, Nat.mul_zero] at h
  refine num_inj a b hl ?_
  have := congrArg (· ^^^ num b) h
  simpa [Nat.xor_assoc] using this
/-- so: of sealed bytes of which a burst is turned nothing is opened -/
theorem burst_open (l y : List UInt8) (hl : y.length = (seal_ l).length) (f t : Nat) (ht : t < 2 ^ 32) (h : num (seal_ l) ^^^ num y = 2 ^ f * t) (hf : f ≤ 8 * y.length) (hne : y ≠ seal_ l) : open_ y = ([], 27) := by
  have h0 : (open_ y).2 ≠ 0 := fun h2 => hne (burst (seal_ l) y hl.symm f t ht h (by rw [← hl]; exact hf) ((reg_seal l).trans (open_reg y h2).symm)).symm
  unfold open_ at h0 ⊢
  rw [if_neg (by rw [hl, seal_len]; omega)] at h0 ⊢
  split
  · rename_i h2
    rw [if_pos h2] at h0
    exact absurd rfl h0
  · rfl

/-! ### one bit of bytes, turned -/
theorem mul_xor (k a b : Nat) : 2 ^ k * (a ^^^ b) = (2 ^ k * a) ^^^ (2 ^ k * b) := by
  have := Nat.shiftLeft_xor_distrib (a := a) (b := b) (i := k)
  rw [Nat.shiftLeft_eq, Nat.shiftLeft_eq, Nat.shiftLeft_eq] at this
  rw [Nat.mul_comm, this, Nat.mul_comm a, Nat.mul_comm b]
theorem num_cons_xor (x : UInt8) (m : Nat) : x.toNat + 256 * m = x.toNat ^^^ (2 ^ 8 * m) := by
  have hx := x.toNat_lt
  rw [xor_low 8 x.toNat m (by omega)]
  omega
theorem num_turn (l : List UInt8) (k : Nat) (hk : k < 8 * l.length) (y : UInt8) (hy : y.toNat = (l.getD (k / 8) 0).toNat ^^^ 2 ^ (k % 8)) : num (l.set (k / 8) y) = num l ^^^ 2 ^ k := by
  induction l generalizing k with
  | nil => simp at hk
  | cons x r ih =>
    by_cases h8 : k < 8
    · rw [show k / 8 = 0 by omega] at hy ⊢
      rw [show k % 8 = k by omega] at hy
      have hy : y.toNat = x.toNat ^^^ 2 ^ k := hy
      rw [List.set_cons_zero, num, num, num_cons_xor, num_cons_xor, hy, Nat.xor_assoc, Nat.xor_assoc, Nat.xor_comm (2 ^ k)]
    · obtain ⟨j, rfl⟩ : ∃ j, k = j + 8 := ⟨k - 8, by omega⟩
      rw [show (j + 8) / 8 = j / 8 + 1 by omega] at hy ⊢
      rw [show (j + 8) % 8 = j % 8 by omega] at hy
      have := ih j (by rw [List.length_cons] at hk; omega) (by simpa using hy)
      rw [List.set_cons_succ, num, this, num, num_cons_xor, num_cons_xor, mul_xor, Nat.pow_add, Nat.mul_comm (2 ^ j), Nat.xor_assoc]
/-- how far a burst has come -/
def Burst (a b : List UInt8) (f t i : Nat) : Prop := num a ^^^ num b = 2 ^ f * (t % 2 ^ i)
theorem Burst.start (a : List UInt8) (f t : Nat) : Burst a a f t 0 := by unfold Burst; rw [Nat.xor_self, Nat.pow_zero, Nat.mod_one, Nat.mul_zero]
theorem mod_succ (t i : Nat) : t % 2 ^ (i + 1) = 2 ^ i * (t / 2 ^ i % 2) + t % 2 ^ i := by
  rw [Nat.pow_succ, Nat.mod_mul]
  omega
theorem Burst.keep {a b : List UInt8} {f t i : Nat} (h : Burst a b f t i) (h0 : t / 2 ^ i % 2 = 0) : Burst a b f t (i + 1) := by
  unfold Burst at *
  rw [h, mod_succ, h0, Nat.mul_zero, Nat.zero_add]
theorem Burst.turn {a b : List UInt8} {f t i : Nat} (h : Burst a b f t i) (h1 : t / 2 ^ i % 2 = 1) (hk : f + i < 8 * b.length) (y : UInt8) (hy : y.toNat = (b.getD ((f + i) / 8) 0).toNat ^^^ 2 ^ ((f + i) % 8)) : Burst a (b.set ((f + i) / 8) y) f t (i + 1) := by
  unfold Burst at *
  rw [num_turn b (f + i) hk y hy, ← Nat.xor_assoc, h, mod_succ, h1, Nat.pow_add]
  have hm := Nat.mod_lt t (show 0 < 2 ^ i from Nat.pow_pos (by decide))
  rw [← mul_xor]
  congr 1
  have := xor_low i (t % 2 ^ i) 1 hm
  rw [Nat.mul_one] at this
  rw [this, Nat.mul_one]
theorem Burst.done {l y : List UInt8} {f t i : Nat} (h : Burst (seal_ l) y f t i) (hl : y.length = (seal_ l).length) (hi : i ≤ 32) (hf : f ≤ 8 * y.length) (hne : y ≠ seal_ l) : open_ y = ([], 27) := by
  refine burst_open l y hl f (t % 2 ^ i) (Nat.lt_of_lt_of_le (Nat.mod_lt _ (Nat.pow_pos (by decide))) (Nat.pow_le_pow_right (by decide) hi)) h hf hne

/-! ### numbers that are stirred -/
def M : Nat := 18446744073709551616
def KA : Nat := 11400714819323198485
def KB : Nat := 15485907386658061715
/-- put together with itself by so many digits -/
def xs (s n : Nat) : Nat := n ^^^ n / 2 ^ s
theorem xor_divp (k a b : Nat) : (a ^^^ b) / 2 ^ k = (a / 2 ^ k) ^^^ (b / 2 ^ k) := by
  have := Nat.shiftRight_xor_distrib (a := a) (b := b) (i := k)
  simpa [Nat.shiftRight_eq_div_pow] using this
theorem xs_lt (s n : Nat) (h : n < M) : xs s n < M := by
  unfold xs M at *
  exact Nat.xor_lt_two_pow (n := 64) h (Nat.lt_of_le_of_lt (Nat.div_le_self _ _) h)
theorem xs32 (n : Nat) (h : n < M) : xs 32 (xs 32 n) = n := by
  unfold xs M at *
  have e : n / 2 ^ 32 / 2 ^ 32 = 0 := by rw [Nat.div_div_eq_div_mul]; exact Nat.div_eq_of_lt (by omega)
  rw [xor_divp, e, Nat.xor_zero, Nat.xor_assoc, Nat.xor_self, Nat.xor_zero]
def xs29 (n : Nat) : Nat := n ^^^ n / 2 ^ 29 ^^^ n / 2 ^ 29 / 2 ^ 29
theorem xs29_lt (n : Nat) (h : n < M) : xs29 n < M := by
  have h1 := xs_lt 29 n h
  unfold xs29
  unfold xs M at *
  exact Nat.xor_lt_two_pow (n := 64) h1 (Nat.lt_of_le_of_lt (Nat.div_le_self _ _) (Nat.lt_of_le_of_lt (Nat.div_le_self _ _) h))
theorem div29 (n : Nat) (h : n < M) : n / 2 ^ 29 / 2 ^ 29 / 2 ^ 29 = 0 := by
  unfold M at h
  omega
theorem xs29_xs (n : Nat) (h : n < M) : xs29 (xs 29 n) = n := by
  unfold xs29 xs
  rw [xor_divp, xor_divp, div29 n h, Nat.xor_zero]
  generalize n / 2 ^ 29 = a
  generalize a / 2 ^ 29 = b
  rw [Nat.xor_assoc (n ^^^ a) (a ^^^ b) b, Nat.xor_assoc a b b, Nat.xor_self, Nat.xor_zero, Nat.xor_assoc, Nat.xor_self, Nat.xor_zero]
theorem xs_xs29 (n : Nat) (h : n < M) : xs 29 (xs29 n) = n := by
  unfold xs29 xs
  rw [xor_divp, xor_divp, div29 n h, Nat.xor_zero]
  generalize n / 2 ^ 29 = a
  generalize a / 2 ^ 29 = b
  rw [Nat.xor_assoc n a b, Nat.xor_assoc, Nat.xor_self, Nat.xor_zero]
def IA : Nat := 17428512612931826493
def IB : Nat := 14982988110149298331
theorem kA : KA * IA % M = 1 := by decide +kernel
theorem kB : KB * IB % M = 1 := by decide +kernel
theorem mul_back (a b n : Nat) (hk : a * b % M = 1) (h : n < M) : n * a % M * b % M = n := by
  rw [Nat.mod_mul_mod, Nat.mul_assoc, Nat.mul_mod, hk, Nat.mul_one, Nat.mod_mod]
  exact Nat.mod_eq_of_lt h
def mix (n : Nat) : Nat := xs 32 (xs 29 (xs 32 n * KA % M) * KB % M)
def unmix (n : Nat) : Nat := xs 32 (xs29 (xs 32 n * IB % M) * IA % M)
theorem M_pos : 0 < M := by decide
theorem mix_lt (n : Nat) : mix n < M := xs_lt _ _ (Nat.mod_lt _ M_pos)
theorem unmix_lt (n : Nat) : unmix n < M := xs_lt _ _ (Nat.mod_lt _ M_pos)
theorem unmix_mix (n : Nat) (h : n < M) : unmix (mix n) = n := by
  have h1 := xs_lt 32 n h
  have h2 : xs 32 n * KA % M < M := Nat.mod_lt _ M_pos
  have h3 := xs_lt 29 _ h2
  have h4 : xs 29 (xs 32 n * KA % M) * KB % M < M := Nat.mod_lt _ M_pos
  unfold unmix mix
  rw [xs32 _ h4, mul_back _ _ _ kB h3, xs29_xs _ h2, mul_back _ _ _ kA h1, xs32 _ h]
theorem mix_unmix (n : Nat) (h : n < M) : mix (unmix n) = n := by
  have h1 := xs_lt 32 n h
  have h2 : xs 32 n * IB % M < M := Nat.mod_lt _ M_pos
  have h3 := xs29_lt _ h2
  have h4 : xs29 (xs 32 n * IB % M) * IA % M < M := Nat.mod_lt _ M_pos
  unfold unmix mix
  rw [xs32 _ h4, mul_back _ _ _ (by rw [Nat.mul_comm]; exact kA) h3, xs_xs29 _ h2, mul_back _ _ _ (by rw [Nat.mul_comm]; exact kB) h1, xs32 _ h]
def dg (c : Nat) (l : List UInt8) : Nat := l.foldl (fun n x => mix ((n + x.toNat + 1) % M)) c
def digest (l : List UInt8) : Nat := dg l.length l
theorem dg_snoc (c : Nat) (l : List UInt8) (x : UInt8) : dg c (l ++ [x]) = mix ((dg c l + x.toNat + 1) % M) := by unfold dg; rw [List.foldl_append, List.foldl_cons, List.foldl_nil]
theorem dg_lt (c : Nat) (l : List UInt8) (h : c < M) : dg c l < M := by
  induction l generalizing c with
  | nil => exact h
  | cons x r ih => exact ih _ (mix_lt _)
end Go.Proofs.Ytdhapddconoegaa.Sum
