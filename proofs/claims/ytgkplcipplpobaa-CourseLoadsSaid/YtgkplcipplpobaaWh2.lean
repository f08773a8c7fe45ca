/- The library's tables of bits, by contracts: how many bits a number has, how many of them are 1 (layer 9). Contracts of the program's own functions of layer 9 (when), the small ones. Contracts of the program's own functions of layer 9 (when): Moment, Of, slots, SameDay, Count. Contracts of the program's own functions of layer 9 (when): slots, SameDay, Count. Contracts of the program's own functions of layer 9 (when): Right. Contracts of the program's own functions of layer 9 (when): Both, Meet, Covers, Gap. Contracts of the program's own functions of layer 9 (when): Moments. -/
import Derived.Test.YtgkplcipplpobaaWh1
import Derived.Lib.Tables
import Derived.Lib.TrailingZeros
namespace Go.Proofs.Ytgkplcipplpobaa
open Go.RowKit
open Whn (Gr Wh)

/-- how many bits a number has -/
def blen (n : Nat) : Nat := if n = 0 then 0 else Nat.log2 n + 1
theorem blen_iff (n k : Nat) : blen n ≤ k ↔ n < 2 ^ k := by
  unfold blen
  split
  · rename_i h
    subst h
    exact ⟨fun _ => Nat.pow_pos (by decide), fun _ => Nat.zero_le _⟩
  · rename_i h
    rw [← Nat.log2_lt h]
    omega
theorem blen_of {n L : Nat} (h : ∀ k, L ≤ k ↔ n < 2 ^ k) : blen n = L := by
  have h1 := (blen_iff n (blen n)).1 (Nat.le_refl _)
  have h2 := (h (blen n)).2 h1
  have h3 := (h L).1 (Nat.le_refl _)
  have h4 := (blen_iff n L).2 h3
  omega
theorem blen_next (n m d : Nat) (hd : d = 2 ^ m) (h : d ≤ n) : blen n = m + blen (n / d) := by
  subst hd
  refine blen_of fun k => ?_
  rcases Nat.lt_or_ge k m with hk | hk
  · have : 2 ^ k < 2 ^ m := Nat.pow_lt_pow_right (by decide) hk
    omega
  · have e : n < 2 ^ k ↔ n / 2 ^ m < 2 ^ (k - m) := by
      rw [Nat.div_lt_iff_lt_mul (Nat.pow_pos (by decide)), ← Nat.pow_add, show k - m + m = k by omega]
    rw [e, ← blen_iff]
    omega
theorem len8_all : ∀ n : Nat, n < 256 → Lib.len8 (n : Int) = ((blen n : Nat) : Int) := by decide +kernel
theorem pop8_all : ∀ n : Nat, n < 256 → Lib.pop8 (n : Int) = ((Whn.ones n 8 : Nat) : Int) := by decide +kernel
theorem blen_le (n k : Nat) (h : n < 2 ^ k) : blen n ≤ k := (blen_iff n k).2 h
theorem ones_add (n k j : Nat) : Whn.ones n (k + j) = Whn.ones n k + Whn.ones (n / 2 ^ k) j := by
  induction j with
  | zero => rfl
  | succ j ih =>
    rw [← Nat.add_assoc, Whn.ones, ih, Whn.ones, Nat.testBit_div_two_pow, Nat.add_comm j k]
    omega
theorem ones_mod (n k : Nat) : Whn.ones (n % 2 ^ k) k = Whn.ones n k := by
  have : ∀ j, j ≤ k → Whn.ones (n % 2 ^ k) j = Whn.ones n j := by
    intro j
    induction j with
    | zero => intro _; rfl
    | succ j ih =>
      intro hj
      rw [Whn.ones, Whn.ones, ih (by omega), Nat.testBit_mod_two_pow, decide_eq_true (by omega), Bool.true_and]
  exact this k (Nat.le_refl _)
theorem ones_small (n k j : Nat) (h : n < 2 ^ k) (hj : k ≤ j) : Whn.ones n j = Whn.ones n k := by
  obtain ⟨r, rfl⟩ : ∃ r, j = k + r := ⟨j - k, by omega⟩
  rw [ones_add, Nat.div_eq_of_lt h]
  have : ∀ r, Whn.ones 0 r = 0 := by
    intro r
    induction r with
    | zero => rfl
    | succ r ih => rw [Whn.ones, ih, Nat.zero_testBit]; rfl
  rw [this]
  rfl
theorem ones32 (n : Nat) : Whn.ones n 32 = Whn.ones (n / 16777216 % 256) 8 + Whn.ones (n / 65536 % 256) 8 + Whn.ones (n / 256 % 256) 8 + Whn.ones (n % 256) 8 := by
  rw [show (32 : Nat) = 8 + (8 + (8 + 8)) from rfl, ones_add, ones_add, ones_add, Nat.div_div_eq_div_mul, Nat.div_div_eq_div_mul]
  have h1 := ones_mod n 8
  have h2 := ones_mod (n / 256) 8
  have h3 := ones_mod (n / 65536) 8
  have h4 := ones_mod (n / 16777216) 8
  simp only [show (2 : Nat) ^ 8 = 256 from rfl, show 256 * 256 = 65536 from rfl, show 256 * 65536 = 16777216 from rfl] at *
  omega

theorem w64_nat (n : Nat) (h : n < 9223372036854775808) : wrap64 (n : Int) = (n : Int) := by unfold wrap64; omega
set_option maxRecDepth 20000 in
set_option maxHeartbeats 2000000 in
theorem len32_a (z y L : Int) (hz : z < 256) (hy : z = y) (y0 : 0 ≤ y) (y1 : y ≤ 255) (hL : Lib.len8 y = L) (l0 : 0 ≤ L) (l1 : L ≤ 8) (w : World) : Calls Try.prog 73 #[.int .u32 z] w (fun e w' => e = .returned (.int .i64 (L)) ∧ w = w') := by
  subst hy
  have t1 : decide (65536 ≤ z) = false := decide_eq_false (by omega)
  have t2 : decide (256 ≤ z) = false := decide_eq_false (by omega)
  go_enter Try.func73, Try.ntmps73
  go_wp2_with fail
  go_ret
  exact ⟨rfl, rfl⟩
set_option maxRecDepth 20000 in
set_option maxHeartbeats 2000000 in
theorem len32_b (z y L : Int) (hz : 256 ≤ z ∧ z < 65536) (hy : z / 256 = y) (y0 : 0 ≤ y) (y1 : y ≤ 255) (hL : Lib.len8 y = L) (l0 : 0 ≤ L) (l1 : L ≤ 8) (w : World) : Calls Try.prog 73 #[.int .u32 z] w (fun e w' => e = .returned (.int .i64 (8 + L)) ∧ w = w') := by
  obtain ⟨hz1, hz2⟩ := hz
  have t1 : decide (65536 ≤ z) = false := decide_eq_false (by omega)
  have t2 : decide (256 ≤ z) = true := decide_eq_true (by omega)
  go_enter Try.func73, Try.ntmps73
  go_wp2_with fail
  go_ret
  exact ⟨rfl, rfl⟩
set_option maxRecDepth 20000 in
set_option maxHeartbeats 2000000 in
theorem len32_c (z y L : Int) (hz : 65536 ≤ z ∧ z < 16777216) (hy : z / 65536 = y) (y0 : 0 ≤ y) (y1 : y ≤ 255) (hL : Lib.len8 y = L) (l0 : 0 ≤ L) (l1 : L ≤ 8) (w : World) : Calls Try.prog 73 #[.int .u32 z] w (fun e w' => e = .returned (.int .i64 (16 + L)) ∧ w = w') := by
  obtain ⟨hz1, hz2⟩ := hz
  have t1 : decide (65536 ≤ z) = true := decide_eq_true (by omega)
  have t2 : decide (256 ≤ z / 65536) = false := decide_eq_false (by omega)
  go_enter Try.func73, Try.ntmps73
  go_wp2_with fail
  go_ret
  exact ⟨rfl, rfl⟩
set_option maxRecDepth 20000 in
set_option maxHeartbeats 2000000 in
theorem len32_d (z y L : Int) (hz : 16777216 ≤ z) (hy : z / 65536 / 256 = y) (y0 : 0 ≤ y) (y1 : y ≤ 255) (hL : Lib.len8 y = L) (l0 : 0 ≤ L) (l1 : L ≤ 8) (w : World) : Calls Try.prog 73 #[.int .u32 z] w (fun e w' => e = .returned (.int .i64 (24 + L)) ∧ w = w') := by
  have t1 : decide (65536 ≤ z) = true := decide_eq_true (by omega)
  have t2 : decide (256 ≤ z / 65536) = true := decide_eq_true (by omega)
  go_enter Try.func73, Try.ntmps73
  go_wp2_with fail
  go_ret
  exact ⟨rfl, rfl⟩
theorem p_Len32 (n : Nat) (hn : n < 4294967296) (w : World) : Calls Try.prog 73 #[.int .u32 (n : Int)] w (fun e w' => e = .returned (.int .i64 ((blen n : Nat) : Int)) ∧ w = w') := by
  rcases Nat.lt_or_ge n 256 with h1 | h1
  · have hb := blen_le n 8 h1
    exact len32_a n n (blen n : Nat) (by omega) rfl (by omega) (by omega) (len8_all n h1) (by omega) (by omega) w
  rcases Nat.lt_or_ge n 65536 with h2 | h2
  · have hb := blen_le (n / 256) 8 (show n / 256 < 256 by omega)
    rw [blen_next n 8 256 rfl h1]
    exact len32_b n (n / 256 : Nat) (blen (n / 256) : Nat) (by omega) (by omega) (by omega) (by omega) (len8_all _ (by omega)) (by omega) (by omega) w
  rcases Nat.lt_or_ge n 16777216 with h3 | h3
  · have hb := blen_le (n / 65536) 8 (show n / 65536 < 256 by omega)
    rw [blen_next n 16 65536 rfl h2]
    exact len32_c n (n / 65536 : Nat) (blen (n / 65536) : Nat) (by omega) (by omega) (by omega) (by omega) (len8_all _ (by omega)) (by omega) (by omega) w
  · have hb := blen_le (n / 16777216) 8 (show n / 16777216 < 256 by omega)
    rw [blen_next n 24 16777216 rfl h3]
    exact len32_d n (n / 16777216 : Nat) (blen (n / 16777216) : Nat) (by omega) (by omega) (by omega) (by omega) (len8_all _ (by omega)) (by omega) (by omega) w
theorem and255 (x : Nat) (h : x < 4294967296) : bits .and .u32 (x : Int) 255 = ((x % 256 : Nat) : Int) := by
  have h1 : (BitVec.ofInt 32 (x : Int)).toNat = x := by
    rw [BitVec.ofInt_natCast, BitVec.toNat_ofNat]; exact Nat.mod_eq_of_lt (by omega)
  show IntKind.u32.wrap ((BitVec.ofInt 32 (x : Int) &&& BitVec.ofInt 32 255).toNat : Int) = _
  rw [BitVec.toNat_and, h1, show (BitVec.ofInt 32 255).toNat = 2 ^ 8 - 1 from rfl, Nat.and_two_pow_sub_one_eq_mod, IntKind.wrap_u32]
  omega
end Go.Proofs.Ytgkplcipplpobaa
namespace Go.Proofs.Ytgkplcipplpobaa
open Go.RowKit
open Whn (Gr Wh)

/-- the weeks as they count -/
def wks (x : Wh) : Nat := if Whn.tame x then x.w else 0
end Go.Proofs.Ytgkplcipplpobaa
namespace Go.Proofs.Ytgkplcipplpobaa
open Go.RowKit
open Whn (Gr Wh)

theorem inG_cases (g : Gr) (a b c : Int) (hg : Whn.rgrid g = true) : (Whn.inG g a b c = true ∧ (0 ≤ a ∧ a ≤ g.w - 1) ∧ (0 ≤ b ∧ b ≤ g.d - 1) ∧ (0 ≤ c ∧ c ≤ g.s - 1)) ∨ (Whn.inG g a b c = false ∧ ((a < 0 ∨ g.w - 1 < a) ∨ ((0 ≤ a ∧ a ≤ g.w - 1) ∧ (b < 0 ∨ g.d - 1 < b)) ∨ ((0 ≤ a ∧ a ≤ g.w - 1) ∧ (0 ≤ b ∧ b ≤ g.d - 1) ∧ (c < 0 ∨ g.s - 1 < c)))) := by
  by_cases h : Whn.inG g a b c = true
  · refine .inl ⟨h, ?_⟩
    unfold Whn.inG at h
    rw [hg, Bool.true_and, decide_eq_true_iff] at h
    omega
  · refine .inr ⟨by simpa using h, ?_⟩
    have := inG_no h hg
    omega
end Go.Proofs.Ytgkplcipplpobaa
namespace Go.Proofs.Ytgkplcipplpobaa
open Go.RowKit
open Whn (Gr Wh)

theorem and_u32 (x y : Nat) (hx : x < 4294967296) (hy : y < 4294967296) : bits .and .u32 (x : Int) (y : Int) = ((x &&& y : Nat) : Int) := by
  have h1 : (BitVec.ofInt 32 (x : Int)).toNat = x := by
    rw [BitVec.ofInt_natCast, BitVec.toNat_ofNat]; exact Nat.mod_eq_of_lt (by omega)
  have h2 : (BitVec.ofInt 32 (y : Int)).toNat = y := by
    rw [BitVec.ofInt_natCast, BitVec.toNat_ofNat]; exact Nat.mod_eq_of_lt (by omega)
  have hl : x &&& y ≤ x := Nat.and_le_left
  show IntKind.u32.wrap ((BitVec.ofInt 32 (x : Int) &&& BitVec.ofInt 32 (y : Int)).toNat : Int) = _
  rw [BitVec.toNat_and, h1, h2, IntKind.wrap_u32]
  omega
theorem and_u8 (x y : Nat) (hx : x < 256) (hy : y < 256) : bits .and .u8 (x : Int) (y : Int) = ((x &&& y : Nat) : Int) := by
  have h1 : (BitVec.ofInt 8 (x : Int)).toNat = x := by
    rw [BitVec.ofInt_natCast, BitVec.toNat_ofNat]; exact Nat.mod_eq_of_lt (by omega)
  have h2 : (BitVec.ofInt 8 (y : Int)).toNat = y := by
    rw [BitVec.ofInt_natCast, BitVec.toNat_ofNat]; exact Nat.mod_eq_of_lt (by omega)
  have hl : x &&& y ≤ x := Nat.and_le_left
  show IntKind.u8.wrap ((BitVec.ofInt 8 (x : Int) &&& BitVec.ofInt 8 (y : Int)).toNat : Int) = _
  rw [BitVec.toNat_and, h1, h2, IntKind.wrap_u8]
  omega
theorem wks_lt {x : Wh} (h : Wok x) : wks x < 4294967296 := by
  have := h.1
  unfold wks
  split <;> omega
/-- what 'slots' hands out -/
def slV (a b : Wh) : Value := .tuple #[.int .i64 (max a.s b.s), .int .i64 (min (a.s + a.l) (b.s + b.l))]
theorem sameDay_wks (a b : Wh) : Whn.sameDay a b = (decide (wks a &&& wks b ≠ 0) && decide (a.d &&& b.d ≠ 0)) := by
  unfold Whn.sameDay wks
  cases Whn.tame a with
  | false => simp
  | true =>
    cases Whn.tame b with
    | false => simp
    | true => rw [if_pos rfl, if_pos rfl, Bool.true_and, Bool.true_and, Bool.decide_and]
theorem nat_bne (n : Nat) : ((n : Int) != 0) = decide (n ≠ 0) := by
  rw [Bool.eq_iff_iff, bne_iff_ne, decide_eq_true_iff]
  omega
end Go.Proofs.Ytgkplcipplpobaa
namespace Go.Proofs.Ytgkplcipplpobaa
open Go.RowKit
open Whn (Gr Wh)

theorem nat_beq (n : Nat) : ((n : Int) == 0) = decide (n = 0) := by
  rw [Bool.eq_iff_iff, beq_iff_eq, decide_eq_true_iff]
  omega
end Go.Proofs.Ytgkplcipplpobaa
namespace Go.Proofs.Ytgkplcipplpobaa
open Go.RowKit
open Whn (Gr Wh)

def whEq (x y : Wh) : Bool := decide (x.w = y.w ∧ x.d = y.d ∧ x.s = y.s ∧ x.l = y.l)
/-- '==' of two times -/
theorem wh_eql (x y : Wh) (w : World) : (binOp .eql 119 (wv x) (wv y)).run Try.prog w = .ok (.bool (whEq x y)) w := by
  go_simp
  have h1 : ((x.w : Int) = (y.w : Int)) = (x.w = y.w) := propext ⟨fun h => by omega, fun h => by omega⟩
  have h2 : ((x.d : Int) = (y.d : Int)) = (x.d = y.d) := propext ⟨fun h => by omega, fun h => by omega⟩
  simp only [h1, h2]
  unfold whEq
  by_cases a1 : x.w = y.w
  · by_cases a2 : x.d = y.d
    · by_cases a3 : x.s = y.s
      · by_cases a4 : x.l = y.l
        · simp [a1, a2, a3, a4]
        · simp [a1, a2, a3, a4]
      · simp [a1, a2, a3]
    · simp [a1, a2]
  · simp [a1]
/-- what Both hands out -/
def bothV (a b : Wh) : Value := .tuple #[wv (Whn.both a b), .bool (Whn.meet a b)]
theorem Mem.four {w X : World} {l : Obs} {C : Nat} {x0 x1 x2 x3 : Value} {t : TypeId} (h : Mem w X ((C, [x0, x1, x2, x3], t) :: l)) (hC : w.heap.size ≤ C) (hne : ∀ p ∈ l, p.1 ≠ C) (y0 y1 y2 y3 : Value) :
    Mem w ((((X.setCell ⟨C, 0, none⟩ y0).setCell ⟨C, 1, none⟩ y1).setCell ⟨C, 2, none⟩ y2).setCell ⟨C, 3, none⟩ y3) ((C, [y0, y1, y2, y3], t) :: l) :=
  (((h.set hC hne 0 y0).set hC hne 1 y1).set hC hne 2 y2).set hC hne 3 y3
theorem covers_eq (a b : Wh) : Whn.covers a b = (Whn.meet a b && whEq (Whn.both a b) b) := by
  unfold Whn.covers Whn.both whEq
  cases Whn.meet a b with
  | false => rfl
  | true => rfl
theorem gap_eq {a b : Wh} (hS : Whn.sameDay a b = true) (hL : Whn.slots a b = false) : Whn.gap a b = max a.s b.s - min (a.s + a.l) (b.s + b.l) := by
  obtain ⟨hta, htb⟩ := tame_of_sameDay hS
  have t1 := (Whn.tame_iff a).1 hta
  have t2 := (Whn.tame_iff b).1 htb
  have hs : ¬ (max a.s b.s < min (a.s + a.l) (b.s + b.l)) := fun h => by
    rw [(Whn.slots_iff a b).2 h] at hL
    cases hL
  unfold Whn.gap
  rw [hS, hL]
  show (if a.s < b.s then b.s - a.s - a.l else a.s - b.s - b.l) = _
  split <;> omega
end Go.Proofs.Ytgkplcipplpobaa
namespace Go.Proofs.Ytgkplcipplpobaa
open Go.RowKit
open Whn (Gr Wh)

theorem and1_u32 (n i : Nat) (hn : n < 4294967296) : (bits .and .u32 ((n : Int) / 2 ^ i) 1 == 0) = !(n.testBit i) := by
  have e1 : (n : Int) / 2 ^ i = ((n / 2 ^ i : Nat) : Int) := by rw [Int.natCast_ediv, Int.natCast_pow]; rfl
  have hl : n / 2 ^ i ≤ n := Nat.div_le_self _ _
  rw [e1, show (1 : Int) = ((1 : Nat) : Int) from rfl, and_u32 _ 1 (by omega) (by decide), Nat.and_one_is_mod, Nat.testBit_eq_decide_div_mod_eq, Bool.eq_iff_iff, beq_iff_eq, Bool.not_eq_true', decide_eq_false_iff_not]
  omega
theorem and1_u8 (n i : Nat) (hn : n < 256) : (bits .and .u8 ((n : Int) / 2 ^ i) 1 == 0) = !(n.testBit i) := by
  have e1 : (n : Int) / 2 ^ i = ((n / 2 ^ i : Nat) : Int) := by rw [Int.natCast_ediv, Int.natCast_pow]; rfl
  have hl : n / 2 ^ i ≤ n := Nat.div_le_self _ _
  rw [e1, show (1 : Int) = ((1 : Nat) : Int) from rfl, and_u8 _ 1 (by omega) (by decide), Nat.and_one_is_mod, Nat.testBit_eq_decide_div_mod_eq, Bool.eq_iff_iff, beq_iff_eq, Bool.not_eq_true', decide_eq_false_iff_not]
  omega
/-- a row of ints of the call's own -/
def MoRet (l : List Int) (w : World) (e : Ending) (w' : World) : Prop := ∃ v, e = .returned v ∧ w'.ownsRow w.heap.size 3 1 v l.length (l.map (Value.int .i64)) ∧ Below w.heap.size w w'
end Go.Proofs.Ytgkplcipplpobaa
