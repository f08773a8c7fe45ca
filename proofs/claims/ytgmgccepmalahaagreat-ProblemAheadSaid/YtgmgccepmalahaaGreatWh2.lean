/- The library's tables of bits, by contracts: how many bits a number has, how many of them are 1 (layer 9). Contracts of the program's own functions of layer 9 (when), the small ones. Contracts of the program's own functions of layer 9 (when): Moment, Of, slots, SameDay, Count. Contracts of the program's own functions of layer 9 (when): slots, SameDay, Count. Contracts of the program's own functions of layer 9 (when): Right. Contracts of the program's own functions of layer 9 (when): Both, Meet, Covers, Gap. Contracts of the program's own functions of layer 9 (when): Moments. -/
import Derived.Test.YtgmgccepmalahaaGreatWh1
import Derived.Lib.Tables
import Derived.Lib.TrailingZeros
namespace Go.Proofs.YtgmgccepmalahaaGreat
open Go.RowKit
open Whn (Gr Wh)

/-- how many bits a number has -/
def blen (n : Nat) : Nat := if n = 0 then 0 else Nat.log2 n + 1
theorem blen_iff (n k : Nat) : blen n ≤ k ↔ n < 2 ^ k := by
  unfold blen
  split
  · rename_i h
    subst h
    exact ⟨fun _ => Nat.pow_pos (by decide), fun _ => Nat.zero_le _⟩
  · rename_i h
    rw [← Nat.log2_lt h]
    omega
theorem blen_of {n L : Nat} (h : ∀ k, L ≤ k ↔ n < 2 ^ k) : blen n = L := by
  have h1 := (blen_iff n (blen n)).1 (Nat.le_refl _)
  have h2 := (h (blen n)).2 h1
  have h3 := (h L).1 (Nat.le_refl _)
  have h4 := (blen_iff n L).2 h3
  omega
theorem blen_next (n m d : Nat) (hd : d = 2 ^ m) (h : d ≤ n) : blen n = m + blen (n / d) := by
  subst hd
  refine blen_of fun k => ?_
  rcases Nat.lt_or_ge k m with hk | hk
  · have : 2 ^ k < 2 ^ m := Nat.pow_lt_pow_right (by decide) hk
    omega
  · have e : n < 2 ^ k ↔ n / 2 ^ m < 2 ^ (k - m) := by
      rw [Nat.div_lt_iff_lt_mul (Nat.pow_pos (by decide)), ← Nat.pow_add, show k - m + m = k by omega]
    rw [e, ← blen_iff]
    omega
theorem len8_all : ∀ n : Nat, n < 256 → Lib.len8 (n : Int) = ((blen n : Nat) : Int) := by decide +kernel
theorem pop8_all : ∀ n : Nat, n < 256 → Lib.pop8 (n : Int) = ((Whn.ones n 8 : Nat) : Int) := by decide +kernel
theorem blen_le (n k : Nat) (h : n < 2 ^ k) : blen n ≤ k := (blen_iff n k).2 h
theorem ones_add (n k j : Nat) : Whn.ones n (k + j) = Whn.ones n k + Whn.ones (n / 2 ^ k) j := by
  induction j with
  | zero => rfl
  | succ j ih =>
    rw [← Nat.add_assoc, Whn.ones, ih, Whn.ones, Nat.testBit_div_two_pow, Nat.add_comm j k]
    omega
theorem ones_mod (n k : Nat) : Whn.ones (n % 2 ^ k) k = Whn.ones n k := by
  have : ∀ j, j ≤ k → Whn.ones (n % 2 ^ k) j = Whn.ones n j := by
    intro j
    induction j with
    | zero => intro _; rfl
    | succ j ih =>
      intro hj
      rw [Whn.ones, Whn.ones, ih (by omega), Nat.testBit_mod_two_pow, decide_eq_true (by omega), Bool.true_and]
  exact this k (Nat.le_refl _)
theorem ones_small (n k j : Nat) (h : n < 2 ^ k) (hj : k ≤ j) : Whn.ones n j = Whn.ones n k := by
  obtain ⟨r, rfl⟩ : ∃ r, j = k + r := ⟨j - k, by omega⟩
  rw [ones_add, Nat.div_eq_of_lt h]
  have : ∀ r, Whn.ones 0 r = 0 := by
    intro r
    induction r with
    | zero => rfl
    | succ r ih => rw [Whn.ones, ih, Nat.zero_testBit]; rfl
  rw [this]
  rfl
theorem ones32 (n : Nat) : Whn.ones n 32 = Whn.ones (n / 16777216 % 256) 8 + Whn.ones (n / 65536 % 256) 8 + Whn.ones (n / 256 % 256) 8 + Whn.ones (n % 256) 8 := by
  rw [show (32 : Nat) = 8 + (8 + (8 + 8)) from rfl, ones_add, ones_add, ones_add, Nat.div_div_eq_div_mul, Nat.div_div_eq_div_mul]
  have h1 := ones_mod n 8
  have h2 := ones_mod (n / 256) 8
  have h3 := ones_mod (n / 65536) 8
  have h4 := ones_mod (n / 16777216) 8
  simp only [show (2 : Nat) ^ 8 = 256 from rfl, show 256 * 256 = 65536 from rfl, show 256 * 65536 = 16777216 from rfl] at *
  omega

theorem w64_nat (n : Nat) (h : n < 9223372036854775808) : wrap64 (n : Int) = (n : Int) := by unfold wrap64; omega
set_option maxRecDepth 20000 in
theorem p_Len8 (n : Nat) (hn : n < 256) (w : World) : Calls Tryz.prog 206 #[.int .u8 (n : Int)] w (fun e w' => e = .returned (.int .i64 ((blen n : Nat) : Int)) ∧ w = w') := by
  have h1 := len8_all n hn
  have hb := blen_le n 8 hn
  have h0 : (0 : Int) ≤ (n : Int) := by omega
  have h2 : (n : Int) ≤ 255 := by omega
  generalize blen n = L at *
  clear hn
  go_enter Tryz.func206, Tryz.ntmps206
  go_wp2_with fail
  go_ret
  exact ⟨rfl, rfl⟩
set_option maxRecDepth 20000 in
set_option maxHeartbeats 2000000 in
theorem len32_a (z y L : Int) (hz : z < 256) (hy : z = y) (y0 : 0 ≤ y) (y1 : y ≤ 255) (hL : Lib.len8 y = L) (l0 : 0 ≤ L) (l1 : L ≤ 8) (w : World) : Calls Tryz.prog 204 #[.int .u32 z] w (fun e w' => e = .returned (.int .i64 (L)) ∧ w = w') := by
  subst hy
  have t1 : decide (65536 ≤ z) = false := decide_eq_false (by omega)
  have t2 : decide (256 ≤ z) = false := decide_eq_false (by omega)
  go_enter Tryz.func204, Tryz.ntmps204
  go_wp2_with fail
  go_ret
  exact ⟨rfl, rfl⟩
set_option maxRecDepth 20000 in
set_option maxHeartbeats 2000000 in
theorem len32_b (z y L : Int) (hz : 256 ≤ z ∧ z < 65536) (hy : z / 256 = y) (y0 : 0 ≤ y) (y1 : y ≤ 255) (hL : Lib.len8 y = L) (l0 : 0 ≤ L) (l1 : L ≤ 8) (w : World) : Calls Tryz.prog 204 #[.int .u32 z] w (fun e w' => e = .returned (.int .i64 (8 + L)) ∧ w = w') := by
  obtain ⟨hz1, hz2⟩ := hz
  have t1 : decide (65536 ≤ z) = false := decide_eq_false (by omega)
  have t2 : decide (256 ≤ z) = true := decide_eq_true (by omega)
  go_enter Tryz.func204, Tryz.ntmps204
  go_wp2_with fail
  go_ret
  exact ⟨rfl, rfl⟩
set_option maxRecDepth 20000 in
set_option maxHeartbeats 2000000 in
theorem len32_c (z y L : Int) (hz : 65536 ≤ z ∧ z < 16777216) (hy : z / 65536 = y) (y0 : 0 ≤ y) (y1 : y ≤ 255) (hL : Lib.len8 y = L) (l0 : 0 ≤ L) (l1 : L ≤ 8) (w : World) : Calls Tryz.prog 204 #[.int .u32 z] w (fun e w' => e = .returned (.int .i64 (16 + L)) ∧ w = w') := by
  obtain ⟨hz1, hz2⟩ := hz
  have t1 : decide (65536 ≤ z) = true := decide_eq_true (by omega)
  have t2 : decide (256 ≤ z / 65536) = false := decide_eq_false (by omega)
  go_enter Tryz.func204, Tryz.ntmps204
  go_wp2_with fail
  go_ret
  exact ⟨rfl, rfl⟩
set_option maxRecDepth 20000 in
set_option maxHeartbeats 2000000 in
theorem len32_d (z y L : Int) (hz : 16777216 ≤ z) (hy : z / 65536 / 256 = y) (y0 : 0 ≤ y) (y1 : y ≤ 255) (hL : Lib.len8 y = L) (l0 : 0 ≤ L) (l1 : L ≤ 8) (w : World) : Calls Tryz.prog 204 #[.int .u32 z] w (fun e w' => e = .returned (.int .i64 (24 + L)) ∧ w = w') := by
  have t1 : decide (65536 ≤ z) = true := decide_eq_true (by omega)
  have t2 : decide (256 ≤ z / 65536) = true := decide_eq_true (by omega)
  go_enter Tryz.func204, Tryz.ntmps204
  go_wp2_with fail
  go_ret
  exact ⟨rfl, rfl⟩
theorem p_Len32 (n : Nat) (hn : n < 4294967296) (w : World) : Calls Tryz.prog 204 #[.int .u32 (n : Int)] w (fun e w' => e = .returned (.int .i64 ((blen n : Nat) : Int)) ∧ w = w') := by
  rcases Nat.lt_or_ge n 256 with h1 | h1
  · have hb := blen_le n 8 h1
    exact len32_a n n (blen n : Nat) (by omega) rfl (by omega) (by omega) (len8_all n h1) (by omega) (by omega) w
  rcases Nat.lt_or_ge n 65536 with h2 | h2
  · have hb := blen_le (n / 256) 8 (show n / 256 < 256 by omega)
    rw [blen_next n 8 256 rfl h1]
    exact len32_b n (n / 256 : Nat) (blen (n / 256) : Nat) (by omega) (by omega) (by omega) (by omega) (len8_all _ (by omega)) (by omega) (by omega) w
  rcases Nat.lt_or_ge n 16777216 with h3 | h3
  · have hb := blen_le (n / 65536) 8 (show n / 65536 < 256 by omega)
    rw [blen_next n 16 65536 rfl h2]
    exact len32_c n (n / 65536 : Nat) (blen (n / 65536) : Nat) (by omega) (by omega) (by omega) (by omega) (len8_all _ (by omega)) (by omega) (by omega) w
  · have hb := blen_le (n / 16777216) 8 (show n / 16777216 < 256 by omega)
    rw [blen_next n 24 16777216 rfl h3]
    exact len32_d n (n / 16777216 : Nat) (blen (n / 16777216) : Nat) (by omega) (by omega) (by omega) (by omega) (len8_all _ (by omega)) (by omega) (by omega) w
theorem and255 (x : Nat) (h : x < 4294967296) : bits .and .u32 (x : Int) 255 = ((x % 256 : Nat) : Int) := by
  have h1 : (BitVec.ofInt 32 (x : Int)).toNat = x := by
    rw [BitVec.ofInt_natCast, BitVec.toNat_ofNat]; exact Nat.mod_eq_of_lt (by omega)
  show IntKind.u32.wrap ((BitVec.ofInt 32 (x : Int) &&& BitVec.ofInt 32 255).toNat : Int) = _
  rw [BitVec.toNat_and, h1, show (BitVec.ofInt 32 255).toNat = 2 ^ 8 - 1 from rfl, Nat.and_two_pow_sub_one_eq_mod, IntKind.wrap_u32]
  omega
end Go.Proofs.YtgmgccepmalahaaGreat
namespace Go.Proofs.YtgmgccepmalahaaGreat
open Go.RowKit
open Whn (Gr Wh)

theorem p_in (n a b : Int) (h : a ≤ n ∧ n ≤ b) (w : World) : Calls Tryz.prog 120 #[.int .i64 n, .int .i64 a, .int .i64 b] w (fun e w' => e = .returned (.bool true) ∧ w = w') := by
  obtain ⟨h1, h2⟩ := h
  go_enter Tryz.func120, Tryz.ntmps120
  go_wp2_with fail
  go_ret
  exact ⟨rfl, rfl⟩
theorem p_out (n a b : Int) (h : n < a ∨ b < n) (w : World) : Calls Tryz.prog 120 #[.int .i64 n, .int .i64 a, .int .i64 b] w (fun e w' => e = .returned (.bool false) ∧ w = w') := by
  by_cases h1 : a ≤ n
  · have h2 := hid (show decide (n ≤ b) = false from decide_eq_false (by omega))
    clear h
    go_enter Tryz.func120, Tryz.ntmps120
    go_wp2_with fail
    go_ret
    exact ⟨congrArg (fun z => Ending.returned (Value.bool z)) h2.out, rfl⟩
  · clear h
    go_enter Tryz.func120, Tryz.ntmps120
    go_wp2_with fail
    go_ret
    exact ⟨rfl, rfl⟩
/-- the weeks as they count -/
def wks (x : Wh) : Nat := if Whn.tame x then x.w else 0
set_option maxRecDepth 4000 in
set_option maxHeartbeats 1000000 in
theorem p_RightGrid (g : Gr) (w : World) : Calls Tryz.prog 39 #[gv g] w (Did (.bool (Whn.rgrid g)) w) := by
  have HI := hid (fun n a b h w => p_in n a b h w)
  have HO := hid (fun n a b h w => p_out n a b h w)
  obtain ⟨B, W, hB, hW, K, hb0⟩ := (Mem.nil w).one (gc g) 23
  obtain ⟨c0, c1, c2⟩ := K.out.gr (B := B) (g := g) (by simp)
  have hno : Whn.rgrid g = true ∨ Whn.rgrid g = false := by cases Whn.rgrid g <;> simp
  have hcs : (Whn.rgrid g = true ∧ (1 ≤ g.w ∧ g.w ≤ 20) ∧ (1 ≤ g.d ∧ g.d ≤ 7) ∧ (1 ≤ g.s ∧ g.s ≤ 96)) ∨ (Whn.rgrid g = false ∧ ((g.w < 1 ∨ 20 < g.w) ∨ ((1 ≤ g.w ∧ g.w ≤ 20) ∧ (g.d < 1 ∨ 7 < g.d)) ∨ ((1 ≤ g.w ∧ g.w ≤ 20) ∧ (1 ≤ g.d ∧ g.d ≤ 7) ∧ (g.s < 1 ∨ 96 < g.s)))) := by
    have h := Whn.rgrid_iff g
    rcases hno with h0 | h0
    · left
      have := h.1 h0
      exact ⟨h0, by omega⟩
    · right
      refine ⟨h0, ?_⟩
      rw [h0] at h
      have : ¬ (1 ≤ g.w ∧ g.w ≤ 20 ∧ 1 ≤ g.d ∧ g.d ≤ 7 ∧ 1 ≤ g.s ∧ g.s ≤ 96) := fun k => by have := h.2 k; cases this
      omega
  clear hno
  rcases hcs with ⟨hr, h1, h2, h3⟩ | ⟨hr, h1 | ⟨h1, h2⟩ | ⟨h1, h2, h3⟩⟩
  · have Hr := hid hr
    clear hr
    go_enter Tryz.func39, Tryz.ntmps39
    go_wp2_with fail
    refine (HI.out _ _ _ h1 _).mono ?_
    rintro e w1 ⟨rfl, rfl⟩
    go_wp2_with fail
    refine (HI.out _ _ _ h2 _).mono ?_
    rintro e w1 ⟨rfl, rfl⟩
    go_wp2_with fail
    refine (HI.out _ _ _ h3 _).mono ?_
    rintro e w1 ⟨rfl, rfl⟩
    go_wp2_with fail
    go_ret
    exact Did.mk (by rw [Hr.out]; rfl) K.out.2
  · have Hr := hid hr
    clear hr
    go_enter Tryz.func39, Tryz.ntmps39
    go_wp2_with fail
    refine (HO.out _ _ _ h1 _).mono ?_
    rintro e w1 ⟨rfl, rfl⟩
    go_wp2_with fail
    go_ret
    exact Did.mk (by rw [Hr.out]; rfl) K.out.2
  · have Hr := hid hr
    clear hr
    go_enter Tryz.func39, Tryz.ntmps39
    go_wp2_with fail
    refine (HI.out _ _ _ h1 _).mono ?_
    rintro e w1 ⟨rfl, rfl⟩
    go_wp2_with fail
    refine (HO.out _ _ _ h2 _).mono ?_
    rintro e w1 ⟨rfl, rfl⟩
    go_wp2_with fail
    go_ret
    exact Did.mk (by rw [Hr.out]; rfl) K.out.2
  · have Hr := hid hr
    clear hr
    go_enter Tryz.func39, Tryz.ntmps39
    go_wp2_with fail
    refine (HI.out _ _ _ h1 _).mono ?_
    rintro e w1 ⟨rfl, rfl⟩
    go_wp2_with fail
    refine (HI.out _ _ _ h2 _).mono ?_
    rintro e w1 ⟨rfl, rfl⟩
    go_wp2_with fail
    refine (HO.out _ _ _ h3 _).mono ?_
    rintro e w1 ⟨rfl, rfl⟩
    go_wp2_with fail
    go_ret
    exact Did.mk (by rw [Hr.out]; rfl) K.out.2
end Go.Proofs.YtgmgccepmalahaaGreat
namespace Go.Proofs.YtgmgccepmalahaaGreat
open Go.RowKit
open Whn (Gr Wh)

theorem inG_cases (g : Gr) (a b c : Int) (hg : Whn.rgrid g = true) : (Whn.inG g a b c = true ∧ (0 ≤ a ∧ a ≤ g.w - 1) ∧ (0 ≤ b ∧ b ≤ g.d - 1) ∧ (0 ≤ c ∧ c ≤ g.s - 1)) ∨ (Whn.inG g a b c = false ∧ ((a < 0 ∨ g.w - 1 < a) ∨ ((0 ≤ a ∧ a ≤ g.w - 1) ∧ (b < 0 ∨ g.d - 1 < b)) ∨ ((0 ≤ a ∧ a ≤ g.w - 1) ∧ (0 ≤ b ∧ b ≤ g.d - 1) ∧ (c < 0 ∨ g.s - 1 < c)))) := by
  by_cases h : Whn.inG g a b c = true
  · refine .inl ⟨h, ?_⟩
    unfold Whn.inG at h
    rw [hg, Bool.true_and, decide_eq_true_iff] at h
    omega
  · refine .inr ⟨by simpa using h, ?_⟩
    have := inG_no h hg
    omega
end Go.Proofs.YtgmgccepmalahaaGreat
namespace Go.Proofs.YtgmgccepmalahaaGreat
open Go.RowKit
open Whn (Gr Wh)

theorem and_u32 (x y : Nat) (hx : x < 4294967296) (hy : y < 4294967296) : bits .and .u32 (x : Int) (y : Int) = ((x &&& y : Nat) : Int) := by
  have h1 : (BitVec.ofInt 32 (x : Int)).toNat = x := by
    rw [BitVec.ofInt_natCast, BitVec.toNat_ofNat]; exact Nat.mod_eq_of_lt (by omega)
  have h2 : (BitVec.ofInt 32 (y : Int)).toNat = y := by
    rw [BitVec.ofInt_natCast, BitVec.toNat_ofNat]; exact Nat.mod_eq_of_lt (by omega)
  have hl : x &&& y ≤ x := Nat.and_le_left
  show IntKind.u32.wrap ((BitVec.ofInt 32 (x : Int) &&& BitVec.ofInt 32 (y : Int)).toNat : Int) = _
  rw [BitVec.toNat_and, h1, h2, IntKind.wrap_u32]
  omega
theorem and_u8 (x y : Nat) (hx : x < 256) (hy : y < 256) : bits .and .u8 (x : Int) (y : Int) = ((x &&& y : Nat) : Int) := by
  have h1 : (BitVec.ofInt 8 (x : Int)).toNat = x := by
    rw [BitVec.ofInt_natCast, BitVec.toNat_ofNat]; exact Nat.mod_eq_of_lt (by omega)
  have h2 : (BitVec.ofInt 8 (y : Int)).toNat = y := by
    rw [BitVec.ofInt_natCast, BitVec.toNat_ofNat]; exact Nat.mod_eq_of_lt (by omega)
  have hl : x &&& y ≤ x := Nat.and_le_left
  show IntKind.u8.wrap ((BitVec.ofInt 8 (x : Int) &&& BitVec.ofInt 8 (y : Int)).toNat : Int) = _
  rw [BitVec.toNat_and, h1, h2, IntKind.wrap_u8]
  omega
theorem wks_lt {x : Wh} (h : Wok x) : wks x < 4294967296 := by
  have := h.1
  unfold wks
  split <;> omega
/-- what 'slots' hands out -/
def slV (a b : Wh) : Value := .tuple #[.int .i64 (max a.s b.s), .int .i64 (min (a.s + a.l) (b.s + b.l))]
theorem sameDay_wks (a b : Wh) : Whn.sameDay a b = (decide (wks a &&& wks b ≠ 0) && decide (a.d &&& b.d ≠ 0)) := by
  unfold Whn.sameDay wks
  cases Whn.tame a with
  | false => simp
  | true =>
    cases Whn.tame b with
    | false => simp
    | true => rw [if_pos rfl, if_pos rfl, Bool.true_and, Bool.true_and, Bool.decide_and]
theorem nat_bne (n : Nat) : ((n : Int) != 0) = decide (n ≠ 0) := by
  rw [Bool.eq_iff_iff, bne_iff_ne, decide_eq_true_iff]
  omega
end Go.Proofs.YtgmgccepmalahaaGreat
namespace Go.Proofs.YtgmgccepmalahaaGreat
open Go.RowKit
open Whn (Gr Wh)

theorem nat_beq (n : Nat) : ((n : Int) == 0) = decide (n = 0) := by
  rw [Bool.eq_iff_iff, beq_iff_eq, decide_eq_true_iff]
  omega
set_option maxRecDepth 4000 in
set_option maxHeartbeats 1000000 in
theorem pr_grid (g : Gr) (x : Wh) (hg : Whn.rgrid g = false) (w : World) : Calls Tryz.prog 175 #[gv g, wv x] w (Did (.bool false) w) := by
  have HT := hid (fun w => p_RightGrid g w)
  rw [hg] at HT
  obtain ⟨A, W, hA, hW, K, hb0⟩ := (Mem.nil w).one (gc g) 23
  obtain ⟨B, V, hB, hV, K1, hb1⟩ := K.out.one (wc x) 55
  obtain ⟨g0, g1, g2⟩ := K1.out.gr (B := A) (g := g) (by simp)
  obtain ⟨c0, c1, c2, c3⟩ := K1.out.wh (B := B) (x := x) (by simp)
  clear K hb0 hb1 hg
  go_enter Tryz.func175, Tryz.ntmps175
  go_wp2_with fail
  refine (HT.out _).mono ?_
  rintro e w1 ⟨rfl, b1⟩
  go_wp2_with fail
  go_ret
  exact Did.mk rfl (K1.out.next b1).2
set_option maxRecDepth 4000 in
set_option maxHeartbeats 1000000 in
theorem pr_w0 (g : Gr) (x : Wh) (hg : Whn.rgrid g = true) (n1 : ((x.w : Int) == 0) = true) (w : World) : Calls Tryz.prog 175 #[gv g, wv x] w (Did (.bool false) w) := by
  have HT := hid (fun w => p_RightGrid g w)
  rw [hg] at HT
  obtain ⟨A, W, hA, hW, K, hb0⟩ := (Mem.nil w).one (gc g) 23
  obtain ⟨B, V, hB, hV, K1, hb1⟩ := K.out.one (wc x) 55
  obtain ⟨g0, g1, g2⟩ := K1.out.gr (B := A) (g := g) (by simp)
  obtain ⟨c0, c1, c2, c3⟩ := K1.out.wh (B := B) (x := x) (by simp)
  clear K hb0 hb1 hg
  go_enter Tryz.func175, Tryz.ntmps175
  go_wp2_with fail
  refine (HT.out _).mono ?_
  rintro e w1 ⟨rfl, b1⟩
  have K2 := K1.out.next b1
  clear g0 g1 g2 c0 c1 c2 c3
  obtain ⟨g0, g1, g2⟩ := K2.gr (B := A) (g := g) (by simp)
  obtain ⟨c0, c1, c2, c3⟩ := K2.wh (B := B) (x := x) (by simp)
  go_wp2_with fail
  go_ret
  exact Did.mk rfl K2.2
set_option maxRecDepth 4000 in
set_option maxHeartbeats 1000000 in
theorem pr_d0 (g : Gr) (x : Wh) (hg : Whn.rgrid g = true) (n1 : ((x.w : Int) == 0) = false) (n2 : ((x.d : Int) == 0) = true) (w : World) : Calls Tryz.prog 175 #[gv g, wv x] w (Did (.bool false) w) := by
  have HT := hid (fun w => p_RightGrid g w)
  rw [hg] at HT
  obtain ⟨A, W, hA, hW, K, hb0⟩ := (Mem.nil w).one (gc g) 23
  obtain ⟨B, V, hB, hV, K1, hb1⟩ := K.out.one (wc x) 55
  obtain ⟨g0, g1, g2⟩ := K1.out.gr (B := A) (g := g) (by simp)
  obtain ⟨c0, c1, c2, c3⟩ := K1.out.wh (B := B) (x := x) (by simp)
  clear K hb0 hb1 hg
  go_enter Tryz.func175, Tryz.ntmps175
  go_wp2_with fail
  refine (HT.out _).mono ?_
  rintro e w1 ⟨rfl, b1⟩
  have K2 := K1.out.next b1
  clear g0 g1 g2 c0 c1 c2 c3
  obtain ⟨g0, g1, g2⟩ := K2.gr (B := A) (g := g) (by simp)
  obtain ⟨c0, c1, c2, c3⟩ := K2.wh (B := B) (x := x) (by simp)
  go_wp2_with fail
  go_ret
  exact Did.mk rfl K2.2
set_option maxRecDepth 4000 in
set_option maxHeartbeats 2000000 in
theorem pr_lw (g : Gr) (x : Wh) (hg : Whn.rgrid g = true) (n1 : ((x.w : Int) == 0) = false) (n2 : ((x.d : Int) == 0) = false) (lw : Nat) (H32 : Hid (∀ w, Calls Tryz.prog 204 #[.int .u32 (x.w : Int)] w (fun e w' => e = .returned (.int .i64 (lw : Int)) ∧ w = w'))) (t1 : decide (g.w < (lw : Int)) = true) (w : World) : Calls Tryz.prog 175 #[gv g, wv x] w (Did (.bool false) w) := by
  have HT := hid (fun w => p_RightGrid g w)
  rw [hg] at HT
  obtain ⟨A, W, hA, hW, K, hb0⟩ := (Mem.nil w).one (gc g) 23
  obtain ⟨B, V, hB, hV, K1, hb1⟩ := K.out.one (wc x) 55
  obtain ⟨g0, g1, g2⟩ := K1.out.gr (B := A) (g := g) (by simp)
  obtain ⟨c0, c1, c2, c3⟩ := K1.out.wh (B := B) (x := x) (by simp)
  clear K hb0 hb1 hg
  go_enter Tryz.func175, Tryz.ntmps175
  go_wp2_with fail
  refine (HT.out _).mono ?_
  rintro e w1 ⟨rfl, b1⟩
  have K2 := K1.out.next b1
  clear g0 g1 g2 c0 c1 c2 c3
  obtain ⟨g0, g1, g2⟩ := K2.gr (B := A) (g := g) (by simp)
  obtain ⟨c0, c1, c2, c3⟩ := K2.wh (B := B) (x := x) (by simp)
  go_wp2_with fail
  have KA := K2.drew
  have hS2 := And.intro (KA.gr (B := A) (g := g) (by simp)) (KA.wh (B := B) (x := x) (by simp))
  refine wp_region_held_drew (S := (fun X => (X.cell? ⟨A, 0, none⟩ = some (.int .i64 g.w) ∧ X.cell? ⟨A, 1, none⟩ = some (.int .i64 g.d) ∧ X.cell? ⟨A, 2, none⟩ = some (.int .i64 g.s)) ∧ (X.cell? ⟨B, 0, none⟩ = some (.int .u32 (x.w : Int)) ∧ X.cell? ⟨B, 1, none⟩ = some (.int .u8 (x.d : Int)) ∧ X.cell? ⟨B, 2, none⟩ = some (.int .i64 x.s) ∧ X.cell? ⟨B, 3, none⟩ = some (.int .i64 x.l)))) (by kernel_rfl) hS2 (fun hHeld => ?_)
  refine takeH 0 18 (.pointer (some ⟨B, 0, none⟩)) rfl rfl (by kernel_rfl) (by kernel_rfl) (by kernel_rfl) (fun _ _ _ h => h) (by kernel_rfl) (fun X hX => by clear hX; first | rfl | go_simp) hHeld ?_
  simp only [Act.put, List.setIfInBounds_toArray, List.set_cons_zero, List.set_cons_succ]
  refine takeH 1 19 (.int .u32 (x.w : Int)) rfl rfl (by kernel_rfl) (by kernel_rfl) (by kernel_rfl) (fun _ _ _ h => h) (by kernel_rfl) (fun X hX => by obtain ⟨⟨s0, s1, s2⟩, h0, h1, h2, h3⟩ := hX; go_simp) hHeld ?_
  simp only [Act.put, List.setIfInBounds_toArray, List.set_cons_zero, List.set_cons_succ]
  refine takeH 3 21 (.pointer (some ⟨A, 0, none⟩)) rfl rfl (by kernel_rfl) (by kernel_rfl) (by kernel_rfl) (fun _ _ _ h => h) (by kernel_rfl) (fun X hX => by clear hX; first | rfl | go_simp) hHeld ?_
  simp only [Act.put, List.setIfInBounds_toArray, List.set_cons_zero, List.set_cons_succ]
  refine takeH 4 22 (.int .i64 g.w) rfl rfl (by kernel_rfl) (by kernel_rfl) (by kernel_rfl) (fun _ _ _ h => h) (by kernel_rfl) (fun X hX => by obtain ⟨⟨s0, s1, s2⟩, h0, h1, h2, h3⟩ := hX; go_simp) hHeld ?_
  simp only [Act.put, List.setIfInBounds_toArray, List.set_cons_zero, List.set_cons_succ]
  refine wpAnyH_ready (rs := [2]) (by kernel_rfl) (by simp) ?_
  refine AllReadyH.cons rfl (fun KK hK => ?_) AllReadyH.nil
  simp only [List.getElem_toArray, List.getElem_cons_succ, List.getElem_cons_zero]
  go_simp
  refine (H32.out _).mono ?_
  rintro e w3 ⟨rfl, rfl⟩
  refine hK.out _ _ hS2 (fun hHeld => ?_)
  clear hK KK
  try simp only [Act.put, List.setIfInBounds_toArray, List.set_cons_zero, List.set_cons_succ]
  refine takeH 5 23 (.bool true) rfl rfl (by kernel_rfl) (by kernel_rfl) (by kernel_rfl) (fun _ _ _ h => h) (by kernel_rfl) (fun X hX => by clear hX; first | rfl | go_simp) hHeld ?_
  simp only [Act.put, List.setIfInBounds_toArray, List.set_cons_zero, List.set_cons_succ]
  refine takeH 6 24 (.bool true) rfl rfl (by kernel_rfl) (by kernel_rfl) (by kernel_rfl) (fun _ _ _ h => h) (by kernel_rfl) (fun X hX => by clear hX; first | rfl | go_simp) hHeld ?_
  simp only [Act.put, List.setIfInBounds_toArray, List.set_cons_zero, List.set_cons_succ]
  refine skipH 7 25 rfl rfl (by kernel_rfl) (by kernel_rfl) (by kernel_rfl) (fun _ _ _ h => h) (by kernel_rfl) hHeld ?_
  simp only [Act.put, List.setIfInBounds_toArray, List.set_cons_zero, List.set_cons_succ]
  refine skipH 8 26 rfl rfl (by kernel_rfl) (by kernel_rfl) (by kernel_rfl) (fun _ _ _ h => h) (by kernel_rfl) hHeld ?_
  simp only [Act.put, List.setIfInBounds_toArray, List.set_cons_zero, List.set_cons_succ]
  refine skipH 9 27 rfl rfl (by kernel_rfl) (by kernel_rfl) (by kernel_rfl) (fun _ _ _ h => h) (by kernel_rfl) hHeld ?_
  simp only [Act.put, List.setIfInBounds_toArray, List.set_cons_zero, List.set_cons_succ]
  refine skipH 10 28 rfl rfl (by kernel_rfl) (by kernel_rfl) (by kernel_rfl) (fun _ _ _ h => h) (by kernel_rfl) hHeld ?_
  simp only [Act.put, List.setIfInBounds_toArray, List.set_cons_zero, List.set_cons_succ]
  refine skipH 11 29 rfl rfl (by kernel_rfl) (by kernel_rfl) (by kernel_rfl) (fun _ _ _ h => h) (by kernel_rfl) hHeld ?_
  simp only [Act.put, List.setIfInBounds_toArray, List.set_cons_zero, List.set_cons_succ]
  refine skipH 12 30 rfl rfl (by kernel_rfl) (by kernel_rfl) (by kernel_rfl) (fun _ _ _ h => h) (by kernel_rfl) hHeld ?_
  simp only [Act.put, List.setIfInBounds_toArray, List.set_cons_zero, List.set_cons_succ]
  refine takeH 13 31 (.bool true) rfl rfl (by kernel_rfl) (by kernel_rfl) (by kernel_rfl) (fun _ _ _ h => h) (by kernel_rfl) (fun X hX => by clear hX; first | rfl | go_simp) hHeld ?_
  simp only [Act.put, List.setIfInBounds_toArray, List.set_cons_zero, List.set_cons_succ]
  refine wpAnyH_done (by kernel_rfl) ?_ _
  go_wp2_with fail
  go_ret
  exact Did.mk rfl KA.2
set_option maxRecDepth 4000 in
set_option maxHeartbeats 2000000 in
theorem pr_ld (g : Gr) (x : Wh) (hg : Whn.rgrid g = true) (n1 : ((x.w : Int) == 0) = false) (n2 : ((x.d : Int) == 0) = false) (lw ld : Nat) (H32 : Hid (∀ w, Calls Tryz.prog 204 #[.int .u32 (x.w : Int)] w (fun e w' => e = .returned (.int .i64 (lw : Int)) ∧ w = w'))) (H8 : Hid (∀ w, Calls Tryz.prog 206 #[.int .u8 (x.d : Int)] w (fun e w' => e = .returned (.int .i64 (ld : Int)) ∧ w = w'))) (t1 : decide (g.w < (lw : Int)) = false) (t2 : decide (g.d < (ld : Int)) = true) (w : World) : Calls Tryz.prog 175 #[gv g, wv x] w (Did (.bool false) w) := by
  have HT := hid (fun w => p_RightGrid g w)
  rw [hg] at HT
  obtain ⟨A, W, hA, hW, K, hb0⟩ := (Mem.nil w).one (gc g) 23
  obtain ⟨B, V, hB, hV, K1, hb1⟩ := K.out.one (wc x) 55
  obtain ⟨g0, g1, g2⟩ := K1.out.gr (B := A) (g := g) (by simp)
  obtain ⟨c0, c1, c2, c3⟩ := K1.out.wh (B := B) (x := x) (by simp)
  clear K hb0 hb1 hg
  go_enter Tryz.func175, Tryz.ntmps175
  go_wp2_with fail
  refine (HT.out _).mono ?_
  rintro e w1 ⟨rfl, b1⟩
  have K2 := K1.out.next b1
  clear g0 g1 g2 c0 c1 c2 c3
  obtain ⟨g0, g1, g2⟩ := K2.gr (B := A) (g := g) (by simp)
  obtain ⟨c0, c1, c2, c3⟩ := K2.wh (B := B) (x := x) (by simp)
  go_wp2_with fail
  have KA := K2.drew
  have hS2 := And.intro (KA.gr (B := A) (g := g) (by simp)) (KA.wh (B := B) (x := x) (by simp))
  go_region_held3 (fun X => (X.cell? ⟨A, 0, none⟩ = some (.int .i64 g.w) ∧ X.cell? ⟨A, 1, none⟩ = some (.int .i64 g.d) ∧ X.cell? ⟨A, 2, none⟩ = some (.int .i64 g.s)) ∧ (X.cell? ⟨B, 0, none⟩ = some (.int .u32 (x.w : Int)) ∧ X.cell? ⟨B, 1, none⟩ = some (.int .u8 (x.d : Int)) ∧ X.cell? ⟨B, 2, none⟩ = some (.int .i64 x.s) ∧ X.cell? ⟨B, 3, none⟩ = some (.int .i64 x.l))) (exact hS2) (first | (go_at_call 204; refine (H32.out _).mono ?_; rintro e w3 ⟨rfl, rfl⟩) | (go_at_call 206; refine (H8.out _).mono ?_; rintro e w3 ⟨rfl, rfl⟩))
  go_wp2_with fail
  go_ret
  exact Did.mk rfl KA.2
set_option maxRecDepth 4000 in
set_option maxHeartbeats 2000000 in
theorem pr_l (g : Gr) (x : Wh) (hg : Whn.rgrid g = true) (n1 : ((x.w : Int) == 0) = false) (n2 : ((x.d : Int) == 0) = false) (lw ld : Nat) (H32 : Hid (∀ w, Calls Tryz.prog 204 #[.int .u32 (x.w : Int)] w (fun e w' => e = .returned (.int .i64 (lw : Int)) ∧ w = w'))) (H8 : Hid (∀ w, Calls Tryz.prog 206 #[.int .u8 (x.d : Int)] w (fun e w' => e = .returned (.int .i64 (ld : Int)) ∧ w = w'))) (t1 : decide (g.w < (lw : Int)) = false) (t2 : decide (g.d < (ld : Int)) = false) (t3 : decide (1 ≤ x.l) = false) (w : World) : Calls Tryz.prog 175 #[gv g, wv x] w (Did (.bool false) w) := by
  have HT := hid (fun w => p_RightGrid g w)
  rw [hg] at HT
  obtain ⟨A, W, hA, hW, K, hb0⟩ := (Mem.nil w).one (gc g) 23
  obtain ⟨B, V, hB, hV, K1, hb1⟩ := K.out.one (wc x) 55
  obtain ⟨g0, g1, g2⟩ := K1.out.gr (B := A) (g := g) (by simp)
  obtain ⟨c0, c1, c2, c3⟩ := K1.out.wh (B := B) (x := x) (by simp)
  clear K hb0 hb1 hg
  go_enter Tryz.func175, Tryz.ntmps175
  go_wp2_with fail
  refine (HT.out _).mono ?_
  rintro e w1 ⟨rfl, b1⟩
  have K2 := K1.out.next b1
  clear g0 g1 g2 c0 c1 c2 c3
  obtain ⟨g0, g1, g2⟩ := K2.gr (B := A) (g := g) (by simp)
  obtain ⟨c0, c1, c2, c3⟩ := K2.wh (B := B) (x := x) (by simp)
  go_wp2_with fail
  have KA := K2.drew
  have hS2 := And.intro (KA.gr (B := A) (g := g) (by simp)) (KA.wh (B := B) (x := x) (by simp))
  go_region_held3 (fun X => (X.cell? ⟨A, 0, none⟩ = some (.int .i64 g.w) ∧ X.cell? ⟨A, 1, none⟩ = some (.int .i64 g.d) ∧ X.cell? ⟨A, 2, none⟩ = some (.int .i64 g.s)) ∧ (X.cell? ⟨B, 0, none⟩ = some (.int .u32 (x.w : Int)) ∧ X.cell? ⟨B, 1, none⟩ = some (.int .u8 (x.d : Int)) ∧ X.cell? ⟨B, 2, none⟩ = some (.int .i64 x.s) ∧ X.cell? ⟨B, 3, none⟩ = some (.int .i64 x.l))) (exact hS2) (first | (go_at_call 204; refine (H32.out _).mono ?_; rintro e w3 ⟨rfl, rfl⟩) | (go_at_call 206; refine (H8.out _).mono ?_; rintro e w3 ⟨rfl, rfl⟩))
  obtain ⟨⟨g0, g1, g2⟩, c0, c1, c2, c3⟩ := hS2
  go_wp2_with fail
  go_ret
  exact Did.mk rfl KA.2
set_option maxRecDepth 4000 in
set_option maxHeartbeats 2000000 in
theorem pr_in (g : Gr) (x : Wh) (hg : Whn.rgrid g = true) (n1 : ((x.w : Int) == 0) = false) (n2 : ((x.d : Int) == 0) = false) (lw ld : Nat) (H32 : Hid (∀ w, Calls Tryz.prog 204 #[.int .u32 (x.w : Int)] w (fun e w' => e = .returned (.int .i64 (lw : Int)) ∧ w = w'))) (H8 : Hid (∀ w, Calls Tryz.prog 206 #[.int .u8 (x.d : Int)] w (fun e w' => e = .returned (.int .i64 (ld : Int)) ∧ w = w'))) (t1 : decide (g.w < (lw : Int)) = false) (t2 : decide (g.d < (ld : Int)) = false) (hl : 1 ≤ x.l) (gs : 1 ≤ g.s ∧ g.s ≤ 96) (hs : 0 ≤ x.s ∧ x.s ≤ g.s - x.l) (w : World) : Calls Tryz.prog 175 #[gv g, wv x] w (Did (.bool true) w) := by
  have HT := hid (fun w => p_RightGrid g w)
  rw [hg] at HT
  have HI := hid (fun n a b h w => p_in n a b h w)
  obtain ⟨gs1, gs2⟩ := gs
  obtain ⟨A, W, hA, hW, K, hb0⟩ := (Mem.nil w).one (gc g) 23
  obtain ⟨B, V, hB, hV, K1, hb1⟩ := K.out.one (wc x) 55
  obtain ⟨g0, g1, g2⟩ := K1.out.gr (B := A) (g := g) (by simp)
  obtain ⟨c0, c1, c2, c3⟩ := K1.out.wh (B := B) (x := x) (by simp)
  clear K hb0 hb1 hg
  go_enter Tryz.func175, Tryz.ntmps175
  go_wp2_with fail
  refine (HT.out _).mono ?_
  rintro e w1 ⟨rfl, b1⟩
  have K2 := K1.out.next b1
  clear g0 g1 g2 c0 c1 c2 c3
  obtain ⟨g0, g1, g2⟩ := K2.gr (B := A) (g := g) (by simp)
  obtain ⟨c0, c1, c2, c3⟩ := K2.wh (B := B) (x := x) (by simp)
  go_wp2_with fail
  have KA := K2.drew
  have hS2 := And.intro (KA.gr (B := A) (g := g) (by simp)) (KA.wh (B := B) (x := x) (by simp))
  go_region_held3 (fun X => (X.cell? ⟨A, 0, none⟩ = some (.int .i64 g.w) ∧ X.cell? ⟨A, 1, none⟩ = some (.int .i64 g.d) ∧ X.cell? ⟨A, 2, none⟩ = some (.int .i64 g.s)) ∧ (X.cell? ⟨B, 0, none⟩ = some (.int .u32 (x.w : Int)) ∧ X.cell? ⟨B, 1, none⟩ = some (.int .u8 (x.d : Int)) ∧ X.cell? ⟨B, 2, none⟩ = some (.int .i64 x.s) ∧ X.cell? ⟨B, 3, none⟩ = some (.int .i64 x.l))) (exact hS2) (first | (go_at_call 204; refine (H32.out _).mono ?_; rintro e w3 ⟨rfl, rfl⟩) | (go_at_call 206; refine (H8.out _).mono ?_; rintro e w3 ⟨rfl, rfl⟩))
  obtain ⟨⟨g0, g1, g2⟩, c0, c1, c2, c3⟩ := hS2
  go_wp2_with fail
  refine (HI.out _ _ _ hs _).mono ?_
  rintro e w1 ⟨rfl, rfl⟩
  go_wp2_with fail
  go_ret
  exact Did.mk rfl KA.2
set_option maxRecDepth 4000 in
set_option maxHeartbeats 2000000 in
theorem pr_out (g : Gr) (x : Wh) (hg : Whn.rgrid g = true) (n1 : ((x.w : Int) == 0) = false) (n2 : ((x.d : Int) == 0) = false) (lw ld : Nat) (H32 : Hid (∀ w, Calls Tryz.prog 204 #[.int .u32 (x.w : Int)] w (fun e w' => e = .returned (.int .i64 (lw : Int)) ∧ w = w'))) (H8 : Hid (∀ w, Calls Tryz.prog 206 #[.int .u8 (x.d : Int)] w (fun e w' => e = .returned (.int .i64 (ld : Int)) ∧ w = w'))) (t1 : decide (g.w < (lw : Int)) = false) (t2 : decide (g.d < (ld : Int)) = false) (hl : 1 ≤ x.l) (hl2 : x.l < 9223372036854775808) (gs : 1 ≤ g.s ∧ g.s ≤ 96) (hs : x.s < 0 ∨ g.s - x.l < x.s) (w : World) : Calls Tryz.prog 175 #[gv g, wv x] w (Did (.bool false) w) := by
  have HT := hid (fun w => p_RightGrid g w)
  rw [hg] at HT
  have HO := hid (fun n a b h w => p_out n a b h w)
  obtain ⟨gs1, gs2⟩ := gs
  obtain ⟨A, W, hA, hW, K, hb0⟩ := (Mem.nil w).one (gc g) 23
  obtain ⟨B, V, hB, hV, K1, hb1⟩ := K.out.one (wc x) 55
  obtain ⟨g0, g1, g2⟩ := K1.out.gr (B := A) (g := g) (by simp)
  obtain ⟨c0, c1, c2, c3⟩ := K1.out.wh (B := B) (x := x) (by simp)
  clear K hb0 hb1 hg
  go_enter Tryz.func175, Tryz.ntmps175
  go_wp2_with fail
  refine (HT.out _).mono ?_
  rintro e w1 ⟨rfl, b1⟩
  have K2 := K1.out.next b1
  clear g0 g1 g2 c0 c1 c2 c3
  obtain ⟨g0, g1, g2⟩ := K2.gr (B := A) (g := g) (by simp)
  obtain ⟨c0, c1, c2, c3⟩ := K2.wh (B := B) (x := x) (by simp)
  go_wp2_with fail
  have KA := K2.drew
  have hS2 := And.intro (KA.gr (B := A) (g := g) (by simp)) (KA.wh (B := B) (x := x) (by simp))
  go_region_held3 (fun X => (X.cell? ⟨A, 0, none⟩ = some (.int .i64 g.w) ∧ X.cell? ⟨A, 1, none⟩ = some (.int .i64 g.d) ∧ X.cell? ⟨A, 2, none⟩ = some (.int .i64 g.s)) ∧ (X.cell? ⟨B, 0, none⟩ = some (.int .u32 (x.w : Int)) ∧ X.cell? ⟨B, 1, none⟩ = some (.int .u8 (x.d : Int)) ∧ X.cell? ⟨B, 2, none⟩ = some (.int .i64 x.s) ∧ X.cell? ⟨B, 3, none⟩ = some (.int .i64 x.l))) (exact hS2) (first | (go_at_call 204; refine (H32.out _).mono ?_; rintro e w3 ⟨rfl, rfl⟩) | (go_at_call 206; refine (H8.out _).mono ?_; rintro e w3 ⟨rfl, rfl⟩))
  obtain ⟨⟨g0, g1, g2⟩, c0, c1, c2, c3⟩ := hS2
  go_wp2_with fail
  refine (HO.out _ _ _ hs _).mono ?_
  rintro e w1 ⟨rfl, rfl⟩
  go_wp2_with fail
  go_ret
  exact Did.mk rfl KA.2
theorem p_Right (g : Gr) (x : Wh) (hx : Wok x) (w : World) : Calls Tryz.prog 175 #[gv g, wv x] w (Did (.bool (Whn.right g x)) w) := by
  obtain ⟨hx1, hx2, hx3, hx4⟩ := hx
  have H32 := hid (fun w => p_Len32 x.w hx1 w)
  have H8 := hid (fun w => p_Len8 x.d hx2 w)
  have HR := Whn.right_iff g x
  have HF : ∀ p : Prop, ¬ p → (Whn.right g x = true → p) → false = Whn.right g x := fun p hp h => by
    cases hr : Whn.right g x with
    | false => rfl
    | true => exact absurd (h hr) hp
  cases hT : Whn.rgrid g with
  | false => exact HF (Whn.rgrid g = true) (by rw [hT]; decide) (fun h => (HR.1 h).1) ▸ pr_grid g x hT w
  | true =>
    obtain ⟨q1, q2, q3, q4, q5, q6⟩ := (Whn.rgrid_iff g).1 hT
    by_cases hw0 : x.w = 0
    · exact HF (x.w ≠ 0) (by omega) (fun h => (HR.1 h).2.1) ▸ pr_w0 g x hT (by rw [nat_beq, decide_eq_true hw0]) w
    have n1 : ((x.w : Int) == 0) = false := by rw [nat_beq, decide_eq_false hw0]
    by_cases hd0 : x.d = 0
    · exact HF (x.d ≠ 0) (by omega) (fun h => (HR.1 h).2.2.1) ▸ pr_d0 g x hT n1 (by rw [nat_beq, decide_eq_true hd0]) w
    have n2 : ((x.d : Int) == 0) = false := by rw [nat_beq, decide_eq_false hd0]
    have L1 := blen_iff x.w g.w.toNat
    have L2 := blen_iff x.d g.d.toNat
    generalize blen x.w = lw at *
    generalize blen x.d = ld at *
    by_cases hlw : g.w < (lw : Int)
    · exact HF (x.w < 2 ^ g.w.toNat) (fun h => by have := L1.2 h; omega) (fun h => (HR.1 h).2.2.2.2.2.2.1) ▸ pr_lw g x hT n1 n2 lw H32 (decide_eq_true hlw) w
    by_cases hld : g.d < (ld : Int)
    · exact HF (x.d < 2 ^ g.d.toNat) (fun h => by have := L2.2 h; omega) (fun h => (HR.1 h).2.2.2.2.2.2.2) ▸ pr_ld g x hT n1 n2 lw ld H32 H8 (decide_eq_false hlw) (decide_eq_true hld) w
    by_cases hl : 1 ≤ x.l
    · by_cases hs : 0 ≤ x.s ∧ x.s ≤ g.s - x.l
      · have hr : true = Whn.right g x := (HR.2 ⟨hT, hw0, hd0, hs.1, hl, by omega, L1.1 (by omega), L2.1 (by omega)⟩).symm
        exact hr ▸ pr_in g x hT n1 n2 lw ld H32 H8 (decide_eq_false hlw) (decide_eq_false hld) hl ⟨q5, q6⟩ hs w
      · exact HF (0 ≤ x.s ∧ x.s ≤ g.s - x.l) hs (fun h => by have := HR.1 h; omega) ▸ pr_out g x hT n1 n2 lw ld H32 H8 (decide_eq_false hlw) (decide_eq_false hld) hl hx4.2 ⟨q5, q6⟩ (by omega) w
    · exact HF (1 ≤ x.l) hl (fun h => (HR.1 h).2.2.2.2.1) ▸ pr_l g x hT n1 n2 lw ld H32 H8 (decide_eq_false hlw) (decide_eq_false hld) (decide_eq_false hl) w
end Go.Proofs.YtgmgccepmalahaaGreat
namespace Go.Proofs.YtgmgccepmalahaaGreat
open Go.RowKit
open Whn (Gr Wh)

def whEq (x y : Wh) : Bool := decide (x.w = y.w ∧ x.d = y.d ∧ x.s = y.s ∧ x.l = y.l)
/-- '==' of two times -/
theorem wh_eql (x y : Wh) (w : World) : (binOp .eql 55 (wv x) (wv y)).run Tryz.prog w = .ok (.bool (whEq x y)) w := by
  go_simp
  have h1 : ((x.w : Int) = (y.w : Int)) = (x.w = y.w) := propext ⟨fun h => by omega, fun h => by omega⟩
  have h2 : ((x.d : Int) = (y.d : Int)) = (x.d = y.d) := propext ⟨fun h => by omega, fun h => by omega⟩
  simp only [h1, h2]
  unfold whEq
  by_cases a1 : x.w = y.w
  · by_cases a2 : x.d = y.d
    · by_cases a3 : x.s = y.s
      · by_cases a4 : x.l = y.l
        · simp [a1, a2, a3, a4]
        · simp [a1, a2, a3, a4]
      · simp [a1, a2, a3]
    · simp [a1, a2]
  · simp [a1]
/-- what Both hands out -/
def bothV (a b : Wh) : Value := .tuple #[wv (Whn.both a b), .bool (Whn.meet a b)]
theorem Mem.four {w X : World} {l : Obs} {C : Nat} {x0 x1 x2 x3 : Value} {t : TypeId} (h : Mem w X ((C, [x0, x1, x2, x3], t) :: l)) (hC : w.heap.size ≤ C) (hne : ∀ p ∈ l, p.1 ≠ C) (y0 y1 y2 y3 : Value) :
    Mem w ((((X.setCell ⟨C, 0, none⟩ y0).setCell ⟨C, 1, none⟩ y1).setCell ⟨C, 2, none⟩ y2).setCell ⟨C, 3, none⟩ y3) ((C, [y0, y1, y2, y3], t) :: l) :=
  (((h.set hC hne 0 y0).set hC hne 1 y1).set hC hne 2 y2).set hC hne 3 y3
theorem covers_eq (a b : Wh) : Whn.covers a b = (Whn.meet a b && whEq (Whn.both a b) b) := by
  unfold Whn.covers Whn.both whEq
  cases Whn.meet a b with
  | false => rfl
  | true => rfl
theorem gap_eq {a b : Wh} (hS : Whn.sameDay a b = true) (hL : Whn.slots a b = false) : Whn.gap a b = max a.s b.s - min (a.s + a.l) (b.s + b.l) := by
  obtain ⟨hta, htb⟩ := tame_of_sameDay hS
  have t1 := (Whn.tame_iff a).1 hta
  have t2 := (Whn.tame_iff b).1 htb
  have hs : ¬ (max a.s b.s < min (a.s + a.l) (b.s + b.l)) := fun h => by
    rw [(Whn.slots_iff a b).2 h] at hL
    cases hL
  unfold Whn.gap
  rw [hS, hL]
  show (if a.s < b.s then b.s - a.s - a.l else a.s - b.s - b.l) = _
  split <;> omega
end Go.Proofs.YtgmgccepmalahaaGreat
namespace Go.Proofs.YtgmgccepmalahaaGreat
open Go.RowKit
open Whn (Gr Wh)

theorem and1_u32 (n i : Nat) (hn : n < 4294967296) : (bits .and .u32 ((n : Int) / 2 ^ i) 1 == 0) = !(n.testBit i) := by
  have e1 : (n : Int) / 2 ^ i = ((n / 2 ^ i : Nat) : Int) := by rw [Int.natCast_ediv, Int.natCast_pow]; rfl
  have hl : n / 2 ^ i ≤ n := Nat.div_le_self _ _
  rw [e1, show (1 : Int) = ((1 : Nat) : Int) from rfl, and_u32 _ 1 (by omega) (by decide), Nat.and_one_is_mod, Nat.testBit_eq_decide_div_mod_eq, Bool.eq_iff_iff, beq_iff_eq, Bool.not_eq_true', decide_eq_false_iff_not]
  omega
theorem and1_u8 (n i : Nat) (hn : n < 256) : (bits .and .u8 ((n : Int) / 2 ^ i) 1 == 0) = !(n.testBit i) := by
  have e1 : (n : Int) / 2 ^ i = ((n / 2 ^ i : Nat) : Int) := by rw [Int.natCast_ediv, Int.natCast_pow]; rfl
  have hl : n / 2 ^ i ≤ n := Nat.div_le_self _ _
  rw [e1, show (1 : Int) = ((1 : Nat) : Int) from rfl, and_u8 _ 1 (by omega) (by decide), Nat.and_one_is_mod, Nat.testBit_eq_decide_div_mod_eq, Bool.eq_iff_iff, beq_iff_eq, Bool.not_eq_true', decide_eq_false_iff_not]
  omega
/-- a row of ints of the call's own -/
def MoRet (l : List Int) (w : World) (e : Ending) (w' : World) : Prop := ∃ v, e = .returned v ∧ w'.ownsRow w.heap.size 3 1 v l.length (l.map (Value.int .i64)) ∧ Below w.heap.size w w'
end Go.Proofs.YtgmgccepmalahaaGreat
