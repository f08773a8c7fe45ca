/- The library's tables of bits, by contracts: how many bits a number has, how many of them are 1 (layer 9). -/
import Derived.Test.YtfnjnkmdifigdaaDoorWhnU
import Derived.Lib.Tables
import Derived.Lib.TrailingZeros
namespace Go.Proofs.YtfnjnkmdifigdaaDoor
open Go.RowKit
open Whn (Gr Wh)

/-- how many bits a number has -/
def blen (n : Nat) : Nat := if n = 0 then 0 else Nat.log2 n + 1
theorem blen_iff (n k : Nat) : blen n ≤ k ↔ n < 2 ^ k := by
  unfold blen
  split
  · rename_i h
    subst h
    exact ⟨fun _ => Nat.pow_pos (by decide), fun _ => Nat.zero_le _⟩
  · rename_i h
    rw [← Nat.log2_lt h]
    omega
theorem blen_of {n L : Nat} (h : ∀ k, L ≤ k ↔ n < 2 ^ k) : blen n = L := by
  have h1 := (blen_iff n (blen n)).1 (Nat.le_refl _)
  have h2 := (h (blen n)).2 h1
  have h3 := (h L).1 (Nat.le_refl _)
  have h4 := (blen_iff n L).2 h3
  omega
theorem blen_next (n m d : Nat) (hd : d = 2 ^ m) (h : d ≤ n) : blen n = m + blen (n / d) := by
  subst hd
  refine blen_of fun k => ?_
  rcases Nat.lt_or_ge k m with hk | hk
  · have : 2 ^ k < 2 ^ m := Nat.pow_lt_pow_right (by decide) hk
    omega
  · have e : n < 2 ^ k ↔ n / 2 ^ m < 2 ^ (k - m) := by
      rw [Nat.div_lt_iff_lt_mul (Nat.pow_pos (by decide)), ← Nat.pow_add, show k - m + m = k by omega]
    rw [e, ← blen_iff]
    omega
theorem len8_all : ∀ n : Nat, n < 256 → Lib.len8 (n : Int) = ((blen n : Nat) : Int) := by decide +kernel
theorem pop8_all : ∀ n : Nat, n < 256 → Lib.pop8 (n : Int) = ((Whn.ones n 8 : Nat) : Int) := by decide +kernel
theorem blen_le (n k : Nat) (h : n < 2 ^ k) : blen n ≤ k := (blen_iff n k).2 h
theorem ones_add (n k j : Nat) : Whn.ones n (k + j) = Whn.ones n k + Whn.ones (n / 2 ^ k) j := by
  induction j with
  | zero => rfl
  | succ j ih =>
    rw [← Nat.add_assoc, Whn.ones, ih, Whn.ones, Nat.testBit_div_two_pow, Nat.add_comm j k]
    omega
theorem ones_mod (n k : Nat) : Whn.ones (n % 2 ^ k) k = Whn.ones n k := by
  have : ∀ j, j ≤ k → Whn.ones (n % 2 ^ k) j = Whn.ones n j := by
    intro j
    induction j with
    | zero => intro _; rfl
    | succ j ih =>
      intro hj
      rw [Whn.ones, Whn.ones, ih (by omega), Nat.testBit_mod_two_pow, decide_eq_true (by omega), Bool.true_and]
  exact this k (Nat.le_refl _)
theorem ones_small (n k j : Nat) (h : n < 2 ^ k) (hj : k ≤ j) : Whn.ones n j = Whn.ones n k := by
  obtain ⟨r, rfl⟩ : ∃ r, j = k + r := ⟨j - k, by omega⟩
  rw [ones_add, Nat.div_eq_of_lt h]
  have : ∀ r, Whn.ones 0 r = 0 := by
    intro r
    induction r with
    | zero => rfl
    | succ r ih => rw [Whn.ones, ih, Nat.zero_testBit]; rfl
  rw [this]
  rfl
theorem ones32 (n : Nat) : Whn.ones n 32 = Whn.ones (n / 16777216 % 256) 8 + Whn.ones (n / 65536 % 256) 8 + Whn.ones (n / 256 % 256) 8 + Whn.ones (n % 256) 8 := by
  rw [show (32 : Nat) = 8 + (8 + (8 + 8)) from rfl, ones_add, ones_add, ones_add, Nat.div_div_eq_div_mul, Nat.div_div_eq_div_mul]
  have h1 := ones_mod n 8
  have h2 := ones_mod (n / 256) 8
  have h3 := ones_mod (n / 65536) 8
  have h4 := ones_mod (n / 16777216) 8
  simp only [show (2 : Nat) ^ 8 = 256 from rfl, show 256 * 256 = 65536 from rfl, show 256 * 65536 = 16777216 from rfl] at *
  omega

theorem w64_nat (n : Nat) (h : n < 9223372036854775808) : wrap64 (n : Int) = (n : Int) := by unfold wrap64; omega
set_option maxRecDepth 20000 in
theorem p_Len8 (n : Nat) (hn : n < 256) (w : World) : Calls Tryd.prog 46 #[.int .u8 (n : Int)] w (fun e w' => e = .returned (.int .i64 ((blen n : Nat) : Int)) ∧ w = w') := by
  have h1 := len8_all n hn
  have hb := blen_le n 8 hn
  have h0 : (0 : Int) ≤ (n : Int) := by omega
  have h2 : (n : Int) ≤ 255 := by omega
  generalize blen n = L at *
  clear hn
  go_enter Tryd.func46, Tryd.ntmps46
  go_wp2_with fail
  go_ret
  exact ⟨rfl, rfl⟩
set_option maxRecDepth 20000 in
set_option maxHeartbeats 2000000 in
theorem len32_a (z y L : Int) (hz : z < 256) (hy : z = y) (y0 : 0 ≤ y) (y1 : y ≤ 255) (hL : Lib.len8 y = L) (l0 : 0 ≤ L) (l1 : L ≤ 8) (w : World) : Calls Tryd.prog 45 #[.int .u32 z] w (fun e w' => e = .returned (.int .i64 (L)) ∧ w = w') := by
  subst hy
  have t1 : decide (65536 ≤ z) = false := decide_eq_false (by omega)
  have t2 : decide (256 ≤ z) = false := decide_eq_false (by omega)
  go_enter Tryd.func45, Tryd.ntmps45
  go_wp2_with fail
  go_ret
  exact ⟨rfl, rfl⟩
set_option maxRecDepth 20000 in
set_option maxHeartbeats 2000000 in
theorem len32_b (z y L : Int) (hz : 256 ≤ z ∧ z < 65536) (hy : z / 256 = y) (y0 : 0 ≤ y) (y1 : y ≤ 255) (hL : Lib.len8 y = L) (l0 : 0 ≤ L) (l1 : L ≤ 8) (w : World) : Calls Tryd.prog 45 #[.int .u32 z] w (fun e w' => e = .returned (.int .i64 (8 + L)) ∧ w = w') := by
  obtain ⟨hz1, hz2⟩ := hz
  have t1 : decide (65536 ≤ z) = false := decide_eq_false (by omega)
  have t2 : decide (256 ≤ z) = true := decide_eq_true (by omega)
  go_enter Tryd.func45, Tryd.ntmps45
  go_wp2_with fail
  go_ret
  exact ⟨rfl, rfl⟩
set_option maxRecDepth 20000 in
set_option maxHeartbeats 2000000 in
theorem len32_c (z y L : Int) (hz : 65536 ≤ z ∧ z < 16777216) (hy : z / 65536 = y) (y0 : 0 ≤ y) (y1 : y ≤ 255) (hL : Lib.len8 y = L) (l0 : 0 ≤ L) (l1 : L ≤ 8) (w : World) : Calls Tryd.prog 45 #[.int .u32 z] w (fun e w' => e = .returned (.int .i64 (16 + L)) ∧ w = w') := by
  obtain ⟨hz1, hz2⟩ := hz
  have t1 : decide (65536 ≤ z) = true := decide_eq_true (by omega)
  have t2 : decide (256 ≤ z / 65536) = false := decide_eq_false (by omega)
  go_enter Tryd.func45, Tryd.ntmps45
  go_wp2_with fail
  go_ret
  exact ⟨rfl, rfl⟩
set_option maxRecDepth 20000 in
set_option maxHeartbeats 2000000 in
theorem len32_d (z y L : Int) (hz : 16777216 ≤ z) (hy : z / 65536 / 256 = y) (y0 : 0 ≤ y) (y1 : y ≤ 255) (hL : Lib.len8 y = L) (l0 : 0 ≤ L) (l1 : L ≤ 8) (w : World) : Calls Tryd.prog 45 #[.int .u32 z] w (fun e w' => e = .returned (.int .i64 (24 + L)) ∧ w = w') := by
  have t1 : decide (65536 ≤ z) = true := decide_eq_true (by omega)
  have t2 : decide (256 ≤ z / 65536) = true := decide_eq_true (by omega)
  go_enter Tryd.func45, Tryd.ntmps45
  go_wp2_with fail
  go_ret
  exact ⟨rfl, rfl⟩
theorem p_Len32 (n : Nat) (hn : n < 4294967296) (w : World) : Calls Tryd.prog 45 #[.int .u32 (n : Int)] w (fun e w' => e = .returned (.int .i64 ((blen n : Nat) : Int)) ∧ w = w') := by
  rcases Nat.lt_or_ge n 256 with h1 | h1
  · have hb := blen_le n 8 h1
    exact len32_a n n (blen n : Nat) (by omega) rfl (by omega) (by omega) (len8_all n h1) (by omega) (by omega) w
  rcases Nat.lt_or_ge n 65536 with h2 | h2
  · have hb := blen_le (n / 256) 8 (show n / 256 < 256 by omega)
    rw [blen_next n 8 256 rfl h1]
    exact len32_b n (n / 256 : Nat) (blen (n / 256) : Nat) (by omega) (by omega) (by omega) (by omega) (len8_all _ (by omega)) (by omega) (by omega) w
  rcases Nat.lt_or_ge n 16777216 with h3 | h3
  · have hb := blen_le (n / 65536) 8 (show n / 65536 < 256 by omega)
    rw [blen_next n 16 65536 rfl h2]
    exact len32_c n (n / 65536 : Nat) (blen (n / 65536) : Nat) (by omega) (by omega) (by omega) (by omega) (len8_all _ (by omega)) (by omega) (by omega) w
  · have hb := blen_le (n / 16777216) 8 (show n / 16777216 < 256 by omega)
    rw [blen_next n 24 16777216 rfl h3]
    exact len32_d n (n / 16777216 : Nat) (blen (n / 16777216) : Nat) (by omega) (by omega) (by omega) (by omega) (len8_all _ (by omega)) (by omega) (by omega) w
theorem and255 (x : Nat) (h : x < 4294967296) : bits .and .u32 (x : Int) 255 = ((x % 256 : Nat) : Int) := by
  have h1 : (BitVec.ofInt 32 (x : Int)).toNat = x := by
    rw [BitVec.ofInt_natCast, BitVec.toNat_ofNat]; exact Nat.mod_eq_of_lt (by omega)
  show IntKind.u32.wrap ((BitVec.ofInt 32 (x : Int) &&& BitVec.ofInt 32 255).toNat : Int) = _
  rw [BitVec.toNat_and, h1, show (BitVec.ofInt 32 255).toNat = 2 ^ 8 - 1 from rfl, Nat.and_two_pow_sub_one_eq_mod, IntKind.wrap_u32]
  omega
end Go.Proofs.YtfnjnkmdifigdaaDoor
