/- Mathematics of layer 15 (pair): the first moment of a time. Nothing of a program is spoken of here. -/
import Derived.Test.YtnhniajfnmdnnaaDoorWh1
import Derived.Lib.TrailingZeros
import Derived.Lib.BitFns
namespace Go.Proofs.YtnhniajfnmdnnaaDoor.Whn

theorem ctz_low : ∀ (f x : Nat), 0 < x → x < 2 ^ f → x.testBit (Lib.ctzFrom f x) = true ∧ ∀ j, j < Lib.ctzFrom f x → x.testBit j = false
  | 0, x, h0, h => by simp at h; omega
  | f + 1, x, h0, h => by
    unfold Lib.ctzFrom
    by_cases h1 : x % 2 = 1
    · rw [if_pos h1]
      exact ⟨by rw [Nat.testBit_zero]; simp [h1], fun j hj => absurd hj (Nat.not_lt_zero j)⟩
    · rw [if_neg h1]
      have ih := ctz_low f (x / 2) (by omega) (by rw [Nat.pow_succ] at h; omega)
      refine ⟨by rw [Nat.add_comm, Nat.testBit_add_one]; exact ih.1, fun j hj => ?_⟩
      cases j with
      | zero => rw [Nat.testBit_zero]; simp [h1]
      | succ j => rw [Nat.testBit_add_one]; exact ih.2 j (by omega)
theorem ctz_bit {n x : Nat} (h0 : x ≠ 0) (h : x < 2 ^ n) : x.testBit (Lib.ctz n x) = true ∧ ∀ j, x.testBit j = true → Lib.ctz n x ≤ j := by
  unfold Lib.ctz
  rw [if_neg h0]
  obtain ⟨h1, h2⟩ := ctz_low n x (by omega) h
  refine ⟨h1, fun j hj => ?_⟩
  rcases Nat.lt_or_ge j (Lib.ctzFrom n x) with h3 | h3
  · rw [h2 j h3] at hj; cases hj
  · exact h3
theorem ctz_lt {n k x : Nat} (h0 : x ≠ 0) (h : x < 2 ^ n) (hk : x < 2 ^ k) : Lib.ctz n x < k := by
  have h1 := (ctz_bit h0 h).1
  rcases Nat.lt_or_ge (Lib.ctz n x) k with h2 | h2
  · exact h2
  · rw [Nat.testBit_lt_two_pow (Nat.lt_of_lt_of_le hk (Nat.pow_le_pow_right (by decide) h2))] at h1
    cases h1
/-- the first moment of a time's first meeting, and its last one -/
def fst (g : Gr) (x : Wh) : Int := if right g x then num g (Lib.ctz 32 x.w : Nat) (Lib.ctz 8 x.d : Nat) x.s else -1
def lst (g : Gr) (x : Wh) : Int := if right g x then fst g x + x.l - 1 else -1
theorem first_in {g : Gr} {x : Wh} (h : right g x = true) (hx : x.w < 4294967296) (hd : x.d < 256) : inG g (Lib.ctz 32 x.w : Nat) (Lib.ctz 8 x.d : Nat) x.s = true := by
  obtain ⟨hg, h1, h2, h3, h4, h5, h6, h7⟩ := (right_iff g x).1 h
  have hgi := (rgrid_iff g).1 hg
  have e1 := ctz_lt (n := 32) h1 hx h6
  have e2 := ctz_lt (n := 8) h2 hd h7
  unfold inG
  rw [hg, Bool.true_and, decide_eq_true_iff]
  omega
theorem upto_more (g : Gr) (x : Wh) (k : Nat) : ∀ j, ∃ t, upto g x (k + j) = upto g x k ++ t
  | 0 => ⟨[], by rw [List.append_nil]; rfl⟩
  | j + 1 => by
    obtain ⟨t, ht⟩ := upto_more g x k j
    exact ⟨_, by rw [← Nat.add_assoc, upto_succ, ht, List.append_assoc]⟩
theorem num_le {g : Gr} {a b c a' b' c' : Int} (hd : 0 ≤ g.d) (hs : 0 ≤ g.s) (h1 : a ≤ a') (h2 : b ≤ b') (h3 : c ≤ c') : num g a b c ≤ num g a' b' c' := by
  unfold num
  have e1 : a * g.d ≤ a' * g.d := Int.mul_le_mul_of_nonneg_right h1 hd
  have e2 : (a * g.d + b) * g.s ≤ (a' * g.d + b') * g.s := Int.mul_le_mul_of_nonneg_right (by omega) hs
  omega
theorem moments_first {g : Gr} {x : Wh} (h : right g x = true) (hx : x.w < 4294967296) (hd : x.d < 256) : ∃ t, moments g x = fst g x :: t := by
  obtain ⟨hg, h1, h2, h3, h4, h5, h6, h7⟩ := (right_iff g x).1 h
  have hgi := (rgrid_iff g).1 hg
  have hin := first_in h hx hd
  obtain ⟨hn0, hn1⟩ := num_lt hin
  obtain ⟨p1, p2, p3⟩ := num_parts hin
  have ef : fst g x = num g (Lib.ctz 32 x.w : Nat) (Lib.ctz 8 x.d : Nat) x.s := by unfold fst; rw [if_pos h]
  obtain ⟨f, hf⟩ := Int.eq_ofNat_of_zero_le hn0
  have hon : onM g x (f : Int) = true := by
    unfold onM
    rw [← hf, p1, p2, p3, on_iff]
    have e1 := ctz_lt (n := 32) h1 hx h6
    have e2 := ctz_lt (n := 8) h2 hd h7
    have e3 := ctz_lt (n := 32) (k := 32) h1 hx hx
    have e4 := ctz_lt (n := 8) (k := 8) h2 hd hd
    refine ⟨right_tame h, by omega, ?_, ?_, Int.le_refl _, by omega⟩
    · rw [Int.toNat_natCast]; exact (ctz_bit h1 hx).1
    · rw [Int.toNat_natCast]; exact (ctz_bit h2 hd).1
  have hoff : ∀ m : Nat, 0 ≤ m → m < f → onM g x (m : Int) = false := fun m _ hm => by
    cases ho : onM g x (m : Int) with
    | false => rfl
    | true =>
      unfold onM at ho
      obtain ⟨_, ⟨q1, _, q3, _⟩, q5, q6, q7, _⟩ := (on_iff _ _ _ _).1 ho
      have hm2 : isM g (m : Int) = true := by
        unfold isM
        rw [decide_eq_true_iff]
        omega
      obtain ⟨_, r2⟩ := num_back hm2
      have s1 := (ctz_bit (n := 32) h1 hx).2 _ q5
      have s2 := (ctz_bit (n := 8) h2 hd).2 _ q6
      have := num_le (g := g) (a := (Lib.ctz 32 x.w : Nat)) (b := (Lib.ctz 8 x.d : Nat)) (c := x.s) (a' := wk g m) (b' := dy g m) (c' := sl g m) (by omega) (by omega) (by omega) (by omega) q7
      rw [r2, hf] at this
      omega
  have e0 : upto g x f = [] := by
    rw [upto_skip f (Nat.zero_le _) hoff]
    rfl
  have e1 : upto g x (f + 1) = [(f : Int)] := by rw [upto_succ, e0, hon]; rfl
  have hle : f + 1 ≤ (all g).toNat := by omega
  obtain ⟨t, ht⟩ := upto_more g x (f + 1) ((all g).toNat - (f + 1))
  refine ⟨t, ?_⟩
  unfold moments
  rw [if_pos h, ef, hf]
  rw [show f + 1 + ((all g).toNat - (f + 1)) = (all g).toNat by omega, e1] at ht
  exact ht
theorem moments_nil {g : Gr} {x : Wh} (h : right g x = false) : moments g x = [] := by
  unfold moments
  rw [h]; rfl
theorem fst_bounds {g : Gr} {x : Wh} (h : right g x = true) (hx : x.w < 4294967296) (hd : x.d < 256) : 0 ≤ fst g x ∧ fst g x ≤ 13440 ∧ 1 ≤ x.l ∧ x.l ≤ 96 := by
  have hin := first_in h hx hd
  obtain ⟨hn0, hn1⟩ := num_lt hin
  have ha := all_le g
  have ef : fst g x = num g (Lib.ctz 32 x.w : Nat) (Lib.ctz 8 x.d : Nat) x.s := by unfold fst; rw [if_pos h]
  have ht := (tame_iff x).1 (right_tame h)
  rw [ef]
  omega
end Go.Proofs.YtnhniajfnmdnnaaDoor.Whn
