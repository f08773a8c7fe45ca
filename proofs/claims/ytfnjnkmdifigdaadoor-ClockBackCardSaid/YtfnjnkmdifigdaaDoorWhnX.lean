/- Contracts of the program's own functions of layer 9 (when): slots, SameDay, Count. -/
import Derived.Test.YtfnjnkmdifigdaaDoorWhnV
namespace Go.Proofs.YtfnjnkmdifigdaaDoor
open Go.RowKit
open Whn (Gr Wh)

theorem and_u32 (x y : Nat) (hx : x < 4294967296) (hy : y < 4294967296) : bits .and .u32 (x : Int) (y : Int) = ((x &&& y : Nat) : Int) := by
  have h1 : (BitVec.ofInt 32 (x : Int)).toNat = x := by
    rw [BitVec.ofInt_natCast, BitVec.toNat_ofNat]; exact Nat.mod_eq_of_lt (by omega)
  have h2 : (BitVec.ofInt 32 (y : Int)).toNat = y := by
    rw [BitVec.ofInt_natCast, BitVec.toNat_ofNat]; exact Nat.mod_eq_of_lt (by omega)
  have hl : x &&& y ≤ x := Nat.and_le_left
  show IntKind.u32.wrap ((BitVec.ofInt 32 (x : Int) &&& BitVec.ofInt 32 (y : Int)).toNat : Int) = _
  rw [BitVec.toNat_and, h1, h2, IntKind.wrap_u32]
  omega
theorem and_u8 (x y : Nat) (hx : x < 256) (hy : y < 256) : bits .and .u8 (x : Int) (y : Int) = ((x &&& y : Nat) : Int) := by
  have h1 : (BitVec.ofInt 8 (x : Int)).toNat = x := by
    rw [BitVec.ofInt_natCast, BitVec.toNat_ofNat]; exact Nat.mod_eq_of_lt (by omega)
  have h2 : (BitVec.ofInt 8 (y : Int)).toNat = y := by
    rw [BitVec.ofInt_natCast, BitVec.toNat_ofNat]; exact Nat.mod_eq_of_lt (by omega)
  have hl : x &&& y ≤ x := Nat.and_le_left
  show IntKind.u8.wrap ((BitVec.ofInt 8 (x : Int) &&& BitVec.ofInt 8 (y : Int)).toNat : Int) = _
  rw [BitVec.toNat_and, h1, h2, IntKind.wrap_u8]
  omega
theorem wks_lt {x : Wh} (h : Wok x) : wks x < 4294967296 := by
  have := h.1
  unfold wks
  split <;> omega
/-- what 'slots' hands out -/
def slV (a b : Wh) : Value := .tuple #[.int .i64 (max a.s b.s), .int .i64 (min (a.s + a.l) (b.s + b.l))]
theorem sameDay_wks (a b : Wh) : Whn.sameDay a b = (decide (wks a &&& wks b ≠ 0) && decide (a.d &&& b.d ≠ 0)) := by
  unfold Whn.sameDay wks
  cases Whn.tame a with
  | false => simp
  | true =>
    cases Whn.tame b with
    | false => simp
    | true => rw [if_pos rfl, if_pos rfl, Bool.true_and, Bool.true_and, Bool.decide_and]
theorem nat_bne (n : Nat) : ((n : Int) != 0) = decide (n ≠ 0) := by
  rw [Bool.eq_iff_iff, bne_iff_ne, decide_eq_true_iff]
  omega
end Go.Proofs.YtfnjnkmdifigdaaDoor
