/- The library's tables of bits, by contracts: how many bits a number has, how many of them are 1 (layer 9). -/
import Derived.Test.YteldcaebbmaemaaWhnU
import Derived.Lib.Tables
import Derived.Lib.TrailingZeros
namespace Go.Proofs.Yteldcaebbmaemaa
open Go.RowKit
open Whn (Gr Wh)

/-- how many bits a number has -/
def blen (n : Nat) : Nat := if n = 0 then 0 else Nat.log2 n + 1
theorem blen_iff (n k : Nat) : blen n ≤ k ↔ n < 2 ^ k := by
  unfold blen
  split
  · rename_i h
    subst h
    exact ⟨fun _ => Nat.pow_pos (by decide), fun _ => Nat.zero_le _⟩
  · rename_i h
    rw [← Nat.log2_lt h]
    omega
theorem blen_of {n L : Nat} (h : ∀ k, L ≤ k ↔ n < 2 ^ k) : blen n = L := by
  have h1 := (blen_iff n (blen n)).1 (Nat.le_refl _)
  have h2 := (h (blen n)).2 h1
  have h3 := (h L).1 (Nat.le_refl _)
  have h4 := (blen_iff n L).2 h3
  omega
theorem blen_next (n m d : Nat) (hd : d = 2 ^ m) (h : d ≤ n) : blen n = m + blen (n / d) := by
  subst hd
  refine blen_of fun k => ?_
  rcases Nat.lt_or_ge k m with hk | hk
  · have : 2 ^ k < 2 ^ m := Nat.pow_lt_pow_right (by decide) hk
    omega
  · have e : n < 2 ^ k ↔ n / 2 ^ m < 2 ^ (k - m) := by
      rw [Nat.div_lt_iff_lt_mul (Nat.pow_pos (by decide)), ← Nat.pow_add, show k - m + m = k by omega]
    rw [e, ← blen_iff]
    omega
theorem len8_all : ∀ n : Nat, n < 256 → Lib.len8 (n : Int) = ((blen n : Nat) : Int) := by decide +kernel
theorem pop8_all : ∀ n : Nat, n < 256 → Lib.pop8 (n : Int) = ((Whn.ones n 8 : Nat) : Int) := by decide +kernel
theorem blen_le (n k : Nat) (h : n < 2 ^ k) : blen n ≤ k := (blen_iff n k).2 h
theorem ones_add (n k j : Nat) : Whn.ones n (k + j) = Whn.ones n k + Whn.ones (n / 2 ^ k) j := by
  induction j with
  | zero => rfl
  | succ j ih =>
    rw [← Nat.add_assoc, Whn.ones, ih, Whn.ones, Nat.testBit_div_two_pow, Nat.add_comm j k]
    omega
theorem ones_mod (n k : Nat) : Whn.ones (n % 2 ^ k) k = Whn.ones n k := by
  have : ∀ j, j ≤ k → Whn.ones (n % 2 ^ k) j = Whn.ones n j := by
    intro j
    induction j with
    | zero => intro _; rfl
    | succ j ih =>
      intro hj
      rw [Whn.ones, Whn.ones, ih (by omega), Nat.testBit_mod_two_pow, decide_eq_true (by omega), Bool.true_and]
  exact this k (Nat.le_refl _)
theorem ones_small (n k j : Nat) (h : n < 2 ^ k) (hj : k ≤ j) : Whn.ones n j = Whn.ones n k := by
  obtain ⟨r, rfl⟩ : ∃ r, j = k + r := ⟨j - k, by omega⟩
  rw [ones_add, Nat.div_eq_of_lt h]
  have : ∀ r, Whn.ones 0 r = 0 := by
    intro r
    induction r with
    | zero => rfl
    | succ r ih => rw [Whn.ones, ih, Nat.zero_testBit]; rfl
  rw [this]
  rfl
theorem ones32 (n : Nat) : Whn.ones n 32 = Whn.ones (n / 16777216 % 256) 8 + Whn.ones (n / 65536 % 256) 8 + Whn.ones (n / 256 % 256) 8 + Whn.ones (n % 256) 8 := by
  rw [show (32 : Nat) = 8 + (8 + (8 + 8)) from rfl, ones_add, ones_add, ones_add, Nat.div_div_eq_div_mul, Nat.div_div_eq_div_mul]
  have h1 := ones_mod n 8
  have h2 := ones_mod (n / 256) 8
  have h3 := ones_mod (n / 65536) 8
  have h4 := ones_mod (n / 16777216) 8
  simp only [show (2 : Nat) ^ 8 = 256 from rfl, show 256 * 256 = 65536 from rfl, show 256 * 65536 = 16777216 from rfl] at *
  omega

theorem w64_nat (n : Nat) (h : n < 9223372036854775808) : wrap64 (n : Int) = (n : Int) := by unfold wrap64; omega
set_option maxRecDepth 20000 in
theorem p_Len8 (n : Nat) (hn : n < 256) (w : World) : Calls Try.prog 55 #[.int .u8 (n : Int)] w (fun e w' => e = .returned (.int .i64 ((blen n : Nat) : Int)) ∧ w = w') := by
  have h1 := len8_all n hn
  have hb := blen_le n 8 hn
  have h0 : (0 : Int) ≤ (n : Int) := by omega
  have h2 : (n : Int) ≤ 255 := by omega
  generalize blen n = L at *
  clear hn
  go_enter Try.func55, Try.ntmps55
  go_wp2_with fail
  go_ret
  exact ⟨rfl, rfl⟩
set_option maxRecDepth 20000 in
theorem p_Ones8 (n : Nat) (hn : n < 256) (w : World) : Calls Try.prog 66 #[.int .u8 (n : Int)] w (fun e w' => e = .returned (.int .i64 ((Whn.ones n 8 : Nat) : Int)) ∧ w = w') := by
  have h1 := pop8_all n hn
  have hb := Whn.ones_le n 8
  have h0 : (0 : Int) ≤ (n : Int) := by omega
  have h2 : (n : Int) ≤ 255 := by omega
  generalize Whn.ones n 8 = L at *
  clear hn
  go_enter Try.func66, Try.ntmps66
  go_wp2_with fail
  go_ret
  exact ⟨rfl, rfl⟩
set_option maxRecDepth 20000 in
set_option maxHeartbeats 2000000 in
theorem len32_a (z y L : Int) (hz : z < 256) (hy : z = y) (y0 : 0 ≤ y) (y1 : y ≤ 255) (hL : Lib.len8 y = L) (l0 : 0 ≤ L) (l1 : L ≤ 8) (w : World) : Calls Try.prog 54 #[.int .u32 z] w (fun e w' => e = .returned (.int .i64 (L)) ∧ w = w') := by
  subst hy
  have t1 : decide (65536 ≤ z) = false := decide_eq_false (by omega)
  have t2 : decide (256 ≤ z) = false := decide_eq_false (by omega)
  go_enter Try.func54, Try.ntmps54
  go_wp2_with fail
  go_ret
  exact ⟨rfl, rfl⟩
set_option maxRecDepth 20000 in
set_option maxHeartbeats 2000000 in
theorem len32_b (z y L : Int) (hz : 256 ≤ z ∧ z < 65536) (hy : z / 256 = y) (y0 : 0 ≤ y) (y1 : y ≤ 255) (hL : Lib.len8 y = L) (l0 : 0 ≤ L) (l1 : L ≤ 8) (w : World) : Calls Try.prog 54 #[.int .u32 z] w (fun e w' => e = .returned (.int .i64 (8 + L)) ∧ w = w') := by
  obtain ⟨hz1, hz2⟩ := hz
  have t1 : decide (65536 ≤ z) = false := decide_eq_false (by omega)
  have t2 : decide (256 ≤ z) = true := decide_eq_true (by omega)
  go_enter Try.func54, Try.ntmps54
  go_wp2_with fail
  go_ret
  exact ⟨rfl, rfl⟩
set_option maxRecDepth 20000 in
set_option maxHeartbeats 2000000 in
theorem len32_c (z y L : Int) (hz : 65536 ≤ z ∧ z < 16777216) (hy : z / 65536 = y) (y0 : 0 ≤ y) (y1 : y ≤ 255) (hL : Lib.len8 y = L) (l0 : 0 ≤ L) (l1 : L ≤ 8) (w : World) : Calls Try.prog 54 #[.int .u32 z] w (fun e w' => e = .returned (.int .i64 (16 + L)) ∧ w = w') := by
  obtain ⟨hz1, hz2⟩ := hz
  have t1 : decide (65536 ≤ z) = true := decide_eq_true (by omega)
  have t2 : decide (256 ≤ z / 65536) = false := decide_eq_false (by omega)
  go_enter Try.func54, Try.ntmps54
  go_wp2_with fail
  go_ret
  exact ⟨rfl, rfl⟩
set_option maxRecDepth 20000 in
set_option maxHeartbeats 2000000 in
theorem len32_d (z y L : Int) (hz : 16777216 ≤ z) (hy : z / 65536 / 256 = y) (y0 : 0 ≤ y) (y1 : y ≤ 255) (hL : Lib.len8 y = L) (l0 : 0 ≤ L) (l1 : L ≤ 8) (w : World) : Calls Try.prog 54 #[.int .u32 z] w (fun e w' => e = .returned (.int .i64 (24 + L)) ∧ w = w') := by
  have t1 : decide (65536 ≤ z) = true := decide_eq_true (by omega)
  have t2 : decide (256 ≤ z / 65536) = true := decide_eq_true (by omega)
  go_enter Try.func54, Try.ntmps54
  go_wp2_with fail
  go_ret
  exact ⟨rfl, rfl⟩
theorem p_Len32 (n : Nat) (hn : n < 4294967296) (w : World) : Calls Try.prog 54 #[.int .u32 (n : Int)] w (fun e w' => e = .returned (.int .i64 ((blen n : Nat) : Int)) ∧ w = w') := by
  rcases Nat.lt_or_ge n 256 with h1 | h1
  · have hb := blen_le n 8 h1
    exact len32_a n n (blen n : Nat) (by omega) rfl (by omega) (by omega) (len8_all n h1) (by omega) (by omega) w
  rcases Nat.lt_or_ge n 65536 with h2 | h2
  · have hb := blen_le (n / 256) 8 (show n / 256 < 256 by omega)
    rw [blen_next n 8 256 rfl h1]
    exact len32_b n (n / 256 : Nat) (blen (n / 256) : Nat) (by omega) (by omega) (by omega) (by omega) (len8_all _ (by omega)) (by omega) (by omega) w
  rcases Nat.lt_or_ge n 16777216 with h3 | h3
  · have hb := blen_le (n / 65536) 8 (show n / 65536 < 256 by omega)
    rw [blen_next n 16 65536 rfl h2]
    exact len32_c n (n / 65536 : Nat) (blen (n / 65536) : Nat) (by omega) (by omega) (by omega) (by omega) (len8_all _ (by omega)) (by omega) (by omega) w
  · have hb := blen_le (n / 16777216) 8 (show n / 16777216 < 256 by omega)
    rw [blen_next n 24 16777216 rfl h3]
    exact len32_d n (n / 16777216 : Nat) (blen (n / 16777216) : Nat) (by omega) (by omega) (by omega) (by omega) (len8_all _ (by omega)) (by omega) (by omega) w
theorem and255 (x : Nat) (h : x < 4294967296) : bits .and .u32 (x : Int) 255 = ((x % 256 : Nat) : Int) := by
  have h1 : (BitVec.ofInt 32 (x : Int)).toNat = x := by
    rw [BitVec.ofInt_natCast, BitVec.toNat_ofNat]; exact Nat.mod_eq_of_lt (by omega)
  show IntKind.u32.wrap ((BitVec.ofInt 32 (x : Int) &&& BitVec.ofInt 32 255).toNat : Int) = _
  rw [BitVec.toNat_and, h1, show (BitVec.ofInt 32 255).toNat = 2 ^ 8 - 1 from rfl, Nat.and_two_pow_sub_one_eq_mod, IntKind.wrap_u32]
  omega
set_option maxRecDepth 20000 in
set_option maxHeartbeats 4000000 in
theorem p_Ones32 (n : Nat) (hn : n < 4294967296) (w : World) : Calls Try.prog 64 #[.int .u32 (n : Int)] w (fun e w' => e = .returned (.int .i64 ((Whn.ones n 32 : Nat) : Int)) ∧ ∃ m, w' = w.drewN m) := by
  have H := hid (ones32 n)
  have e3 : (n : Int) / 16777216 = ((n / 16777216 % 256 : Nat) : Int) := by omega
  have e2 : bits .and .u32 ((n : Int) / 65536) 255 = ((n / 65536 % 256 : Nat) : Int) := by
    rw [show (n : Int) / 65536 = ((n / 65536 : Nat) : Int) by omega]
    exact and255 _ (by omega)
  have e1 : bits .and .u32 ((n : Int) / 256) 255 = ((n / 256 % 256 : Nat) : Int) := by
    rw [show (n : Int) / 256 = ((n / 256 : Nat) : Int) by omega]
    exact and255 _ (by omega)
  have e0 : bits .and .u32 (n : Int) 255 = ((n % 256 : Nat) : Int) := and255 _ hn
  have l3 : n / 16777216 % 256 < 256 := Nat.mod_lt _ (by decide)
  have l2 : n / 65536 % 256 < 256 := Nat.mod_lt _ (by decide)
  have l1 : n / 256 % 256 < 256 := Nat.mod_lt _ (by decide)
  have l0 : n % 256 < 256 := Nat.mod_lt _ (by decide)
  generalize n / 16777216 % 256 = y3 at *
  generalize n / 65536 % 256 = y2 at *
  generalize n / 256 % 256 = y1 at *
  generalize n % 256 = y0 at *
  have p3 := pop8_all y3 l3
  have p2 := pop8_all y2 l2
  have p1 := pop8_all y1 l1
  have p0 := pop8_all y0 l0
  have b3 := Whn.ones_le y3 8
  have b2 := Whn.ones_le y2 8
  have b1 := Whn.ones_le y1 8
  have b0 := Whn.ones_le y0 8
  generalize Whn.ones y3 8 = o3 at *
  generalize Whn.ones y2 8 = o2 at *
  generalize Whn.ones y1 8 = o1 at *
  generalize Whn.ones y0 8 = o0 at *
  have a3 : (0 : Int) ≤ (y3 : Int) ∧ (y3 : Int) ≤ 255 := by omega
  have a2 : (0 : Int) ≤ (y2 : Int) ∧ (y2 : Int) ≤ 255 := by omega
  have a1 : (0 : Int) ≤ (y1 : Int) ∧ (y1 : Int) ≤ 255 := by omega
  have a0 : (0 : Int) ≤ (y0 : Int) ∧ (y0 : Int) ≤ 255 := by omega
  obtain ⟨a31, a32⟩ := a3
  obtain ⟨a21, a22⟩ := a2
  obtain ⟨a11, a12⟩ := a1
  obtain ⟨a01, a02⟩ := a0
  have s1 : IntKind.u8.wrap ((o3 : Int) + (o2 : Int)) = ((o3 + o2 : Nat) : Int) := by rw [IntKind.wrap_u8]; omega
  have s2 : IntKind.u8.wrap (((o3 + o2 : Nat) : Int) + (o1 : Int)) = ((o3 + o2 + o1 : Nat) : Int) := by rw [IntKind.wrap_u8]; omega
  have s3 : IntKind.u8.wrap (((o3 + o2 + o1 : Nat) : Int) + (o0 : Int)) = ((o3 + o2 + o1 + o0 : Nat) : Int) := by rw [IntKind.wrap_u8]; omega
  have Hs := hid (show ((o3 : Int) + o2 + o1 + o0) % 256 = ((o3 + o2 + o1 + o0 : Nat) : Int) by omega)
  clear hn l0 l1 l2 l3 b0 b1 b2 b3
  go_enter Try.func64, Try.ntmps64
  go_wp2_with fail
  go_quiet (fail)
  go_wp2_with fail
  go_ret
  exact ⟨congrArg (fun z => Ending.returned (Value.int .i64 z)) (Hs.out.trans (by rw [H.out])), _, rfl⟩
end Go.Proofs.Yteldcaebbmaemaa
