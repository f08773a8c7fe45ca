/- The lowest bit of a word, as math/bits finds it by its table; a word's bits, one behind the other (layer 5). -/
import Derived.Test.YteejccppdmjlaaaDoorSetP
import Derived.Lib.TrailingZeros
namespace Go.Proofs.YteejccppdmjlaaaDoor
open Go.RowKit

/-! ### the bits of a word, rising -/
def bitsOf (x : Nat) : List Nat := (List.range 64).filter x.testBit
theorem bitsOf_zero : bitsOf 0 = [] := by decide +kernel
theorem upto_next (s : List Nat) (k : Nat) : Bst.upto s (64 * (k + 1)) = Bst.upto s (64 * k) ++ (bitsOf (s.getD k 0)).map (64 * k + ·) := by
  unfold Bst.upto bitsOf
  rw [show 64 * (k + 1) = 64 * k + 64 by omega, List.range_add, List.filter_append, List.filter_map]
  congr 2
  apply List.filter_congr
  intro j hj
  exact Bst.mem_at s k j (List.mem_range.1 hj)
/-- the first for which p is so, and the others -/
theorem filter_first (n c : Nat) (p q : Nat → Bool) (hc : c < n) (hp : p c = true) (h0 : ∀ j, j < c → p j = false) (hq : ∀ j, q j = (p j && !decide (j = c))) : (List.range n).filter p = c :: (List.range n).filter q := by
  obtain ⟨r, rfl⟩ : ∃ r, n = c + 1 + r := ⟨n - c - 1, by omega⟩
  rw [List.range_add, List.range_succ, List.filter_append, List.filter_append, List.filter_append, List.filter_append]
  have e1 : (List.range c).filter p = [] := List.filter_eq_nil_iff.2 fun j hj => by rw [h0 j (List.mem_range.1 hj)]; exact Bool.false_ne_true
  have e2 : (List.range c).filter q = [] := List.filter_eq_nil_iff.2 fun j hj => by rw [hq, h0 j (List.mem_range.1 hj), Bool.false_and]; exact Bool.false_ne_true
  have e3 : [c].filter p = [c] := List.filter_cons_of_pos hp
  have e4 : [c].filter q = [] := List.filter_cons_of_neg (by rw [hq, decide_eq_true rfl, Bool.not_true, Bool.and_false]; exact Bool.false_ne_true)
  rw [e1, e2, e3, e4, List.nil_append, List.nil_append]
  show c :: _ = c :: _
  congr 1
  apply List.filter_congr
  intro j hj
  obtain ⟨i, _, rfl⟩ := List.mem_map.1 hj
  rw [hq, decide_eq_false (by omega), Bool.not_false, Bool.and_true]
theorem low_bits (c m : Nat) : (2 ^ c * (2 * m + 1)).testBit c = true ∧ (∀ j, j < c → (2 ^ c * (2 * m + 1)).testBit j = false) ∧ ∀ j, ((2 ^ c * (2 * m + 1)) &&& (2 ^ c * (2 * m + 1) - 1)).testBit j = ((2 ^ c * (2 * m + 1)).testBit j && !decide (j = c)) := by
  have hp : 0 < 2 ^ c := Nat.pow_pos (by decide)
  have h1 : ∀ j, (2 ^ c * (2 * m + 1)).testBit j = if j < c then false else (2 * m + 1).testBit (j - c) := fun j => by
    have := Nat.testBit_two_pow_mul_add (i := c) (2 * m + 1) (b := 0) hp j
    rw [Nat.add_zero] at this
    rw [this, Nat.zero_testBit]
  have e : 2 ^ c * (2 * m + 1) - 1 = 2 ^ c * (2 * m) + (2 ^ c - 1) := by rw [Nat.mul_add, Nat.mul_one]; omega
  have h2 : ∀ j, (2 ^ c * (2 * m + 1) - 1).testBit j = if j < c then true else (2 * m).testBit (j - c) := fun j => by
    rw [e, Nat.testBit_two_pow_mul_add (i := c) (2 * m) (by omega) j]
    split
    · rename_i h
      rw [Nat.testBit_two_pow_sub_one, decide_eq_true h]
    · rfl
  refine ⟨?_, fun j hj => ?_, fun j => ?_⟩
  · rw [h1, if_neg (by omega), Nat.sub_self, Nat.testBit_zero]
    simp
  · rw [h1, if_pos hj]
  · rw [Nat.testBit_and, h1, h2]
    by_cases hj : j < c
    · rw [if_pos hj, if_pos hj]; rfl
    · rw [if_neg hj, if_neg hj]
      by_cases hjc : j = c
      · subst hjc
        rw [Nat.sub_self, Nat.testBit_zero, Nat.testBit_zero, decide_eq_true rfl]
        simp
      · obtain ⟨i, hi⟩ : ∃ i, j - c = i + 1 := ⟨j - c - 1, by omega⟩
        rw [hi, Nat.testBit_succ, Nat.testBit_succ, show (2 * m + 1) / 2 = m by omega, show 2 * m / 2 = m by omega, Bool.and_self, decide_eq_false hjc, Bool.not_false, Bool.and_true]
theorem bitsOf_step (y : Nat) (h0 : y ≠ 0) (h : y < 18446744073709551616) : bitsOf y = Lib.ctz 64 y :: bitsOf (y &&& (y - 1)) ∧ (y &&& (y - 1)) < y ∧ Lib.ctz 64 y < 64 := by
  have e : Lib.ctz 64 y = Lib.ctzFrom 64 y := by unfold Lib.ctz; rw [if_neg h0]
  obtain ⟨m, hy, hc⟩ := Lib.ctzFrom_spec 64 y (by omega) h
  rw [e]
  generalize Lib.ctzFrom 64 y = c at *
  obtain ⟨l1, l2, l3⟩ := low_bits c m
  rw [← hy] at l1 l2 l3
  refine ⟨filter_first 64 c _ _ hc l1 l2 l3, ?_, hc⟩
  have := @Nat.and_le_right y (y - 1)
  omega

/-! ### the table, and what it finds -/
def Tab (w : World) : Prop := ∀ j, j < 64 → w.cell? ⟨0, j, none⟩ = some (.int .u8 (Lib.deBruijn64tab.getD j 0 : Nat))
theorem Tab.lt {w : World} (h : Tab w) : 0 < w.heap.size := World.block_lt_of_cell? _ _ (h 0 (by decide))
theorem Tab.below {w w' : World} {C : Nat} (h : Tab w) (hb : Below C w w') (hC : 0 < C) : Tab w' := fun j hj => (hb.cell (p := ⟨0, j, none⟩) hC).trans (h j hj)
theorem Tab.next {w w' : World} (h : Tab w) (hb : Below w.heap.size w w') : Tab w' := h.below hb h.lt
theorem tz_key (x a : Nat) (hx : x < 18446744073709551616) (hx0 : x ≠ 0) (hlow : x &&& (18446744073709551616 - x) = a) :
    IntKind.u64.wrap (bits BinOp.and IntKind.u64 (x : Int) (IntKind.u64.wrap (-(x : Int))) * 285870213051353865) / 288230376151711744 = ((a * 285870213051353865 % 18446744073709551616 / 288230376151711744 : Nat) : Int) := by
  have e1 : IntKind.u64.wrap (-(x : Int)) = ((18446744073709551616 - x : Nat) : Int) := by rw [IntKind.wrap_u64]; omega
  rw [e1, bits_and_u64_nat x _ hx (by omega), hlow, IntKind.wrap_u64]
  omega
set_option maxHeartbeats 1000000 in
theorem tz_core (y k idx : Nat) (w : World) (hx0 : ((y : Int) == 0) = false)
    (key : IntKind.u64.wrap (bits BinOp.and IntKind.u64 (y : Int) (IntKind.u64.wrap (-(y : Int))) * 285870213051353865) / 288230376151711744 = (idx : Int))
    (hi : idx < 64) (hk : k < 64) (hcell : w.cell? ⟨0, idx, none⟩ = some (.int .u8 (k : Nat))) :
    Calls Tryd.prog 24 #[.int .u64 (y : Int)] w fun e w' => e = .returned (.int .i64 (k : Nat)) ∧ w = w' := by
  have hw := hid (show wrap64 (k : Int) = (k : Int) by unfold wrap64; omega)
  have i1 : (0 : Int) ≤ (idx : Int) := by omega
  have i2 : (idx : Int) < 64 := by omega
  clear hk hi
  go_enter Tryd.func24, Tryd.ntmps24
  go_wp2_with (simp only [key])
  go_ret
  exact ⟨by show Ending.returned (.int .i64 (wrap64 (k : Int))) = _; rw [hw.out], rfl⟩
theorem p_tz (y : Nat) (hy : y < 18446744073709551616) (h0 : y ≠ 0) (w : World) (hT : Tab w) :
    Calls Tryd.prog 24 #[.int .u64 (y : Int)] w fun e w' => e = .returned (.int .i64 (Lib.ctz 64 y : Nat)) ∧ w = w' := by
  obtain ⟨hlow, hk⟩ := Lib.lowest_bit 64 y h0 hy
  obtain ⟨hi, htab⟩ := Lib.deBruijn64_at _ hk
  have hcell := hT _ hi
  rw [htab] at hcell
  exact tz_core y _ _ w (by simp; omega) (tz_key y _ hy h0 hlow) hi hk hcell
end Go.Proofs.YteejccppdmjlaaaDoor
