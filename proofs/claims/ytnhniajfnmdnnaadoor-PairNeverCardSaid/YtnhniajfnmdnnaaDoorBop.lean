/- Operations on bits of u8 and u32, as Nats. Nothing of a program is spoken of here. -/
import Derived.Test.YtnhniajfnmdnnaaDoorRow
namespace Go.Proofs.YtnhniajfnmdnnaaDoor
open Go.RowKit

theorem o_ofInt (n x : Nat) (hx : x < 2 ^ n) : (BitVec.ofInt n (x : Int)).toNat = x := by
  rw [BitVec.ofInt_natCast, BitVec.toNat_ofNat]; exact Nat.mod_eq_of_lt hx
theorem o_and8 (x y : Nat) (hx : x < 256) (hy : y < 256) : bits .and .u8 (x : Int) (y : Int) = ((x &&& y : Nat) : Int) := by
  show IntKind.u8.wrap ((BitVec.ofInt 8 (x : Int) &&& BitVec.ofInt 8 (y : Int)).toNat : Int) = _
  rw [BitVec.toNat_and, o_ofInt 8 x hx, o_ofInt 8 y hy, IntKind.wrap_u8]
  have : x &&& y ≤ x := Nat.and_le_left
  omega
theorem o_or8 (x y : Nat) (hx : x < 256) (hy : y < 256) : bits .or .u8 (x : Int) (y : Int) = ((x ||| y : Nat) : Int) := by
  show IntKind.u8.wrap ((BitVec.ofInt 8 (x : Int) ||| BitVec.ofInt 8 (y : Int)).toNat : Int) = _
  rw [BitVec.toNat_or, o_ofInt 8 x hx, o_ofInt 8 y hy, IntKind.wrap_u8]
  have : x ||| y < 2 ^ 8 := Nat.or_lt_two_pow hx hy
  omega
theorem o_and32 (x y : Nat) (hx : x < 4294967296) (hy : y < 4294967296) : bits .and .u32 (x : Int) (y : Int) = ((x &&& y : Nat) : Int) := by
  show IntKind.u32.wrap ((BitVec.ofInt 32 (x : Int) &&& BitVec.ofInt 32 (y : Int)).toNat : Int) = _
  rw [BitVec.toNat_and, o_ofInt 32 x hx, o_ofInt 32 y hy, IntKind.wrap_u32]
  have : x &&& y ≤ x := Nat.and_le_left
  omega
theorem o_or32 (x y : Nat) (hx : x < 4294967296) (hy : y < 4294967296) : bits .or .u32 (x : Int) (y : Int) = ((x ||| y : Nat) : Int) := by
  show IntKind.u32.wrap ((BitVec.ofInt 32 (x : Int) ||| BitVec.ofInt 32 (y : Int)).toNat : Int) = _
  rw [BitVec.toNat_or, o_ofInt 32 x hx, o_ofInt 32 y hy, IntKind.wrap_u32]
  have : x ||| y < 2 ^ 32 := Nat.or_lt_two_pow hx hy
  omega
theorem o_andn32 (x y : Nat) (hx : x < 4294967296) (hy : y < 4294967296) : ∃ z : Nat, bits .andNot .u32 (x : Int) (y : Int) = (z : Int) ∧ z ≤ x ∧ ∀ j, z.testBit j = (x.testBit j && !y.testBit j) := by
  refine ⟨(BitVec.ofInt 32 (x : Int) &&& ~~~ BitVec.ofInt 32 (y : Int)).toNat, ?_, ?_, fun j => ?_⟩
  · show IntKind.u32.wrap ((BitVec.ofInt 32 (x : Int) &&& ~~~ BitVec.ofInt 32 (y : Int)).toNat : Int) = _
    rw [IntKind.wrap_u32]
    have := (BitVec.ofInt 32 (x : Int) &&& ~~~ BitVec.ofInt 32 (y : Int)).isLt
    omega
  · rw [BitVec.toNat_and, o_ofInt 32 x hx]
    exact Nat.and_le_left
  · rw [BitVec.testBit_toNat, BitVec.getLsbD_and, BitVec.getLsbD_not, ← BitVec.testBit_toNat, ← BitVec.testBit_toNat, o_ofInt 32 x hx, o_ofInt 32 y hy]
    by_cases hi : j < 32
    · rw [decide_eq_true hi, Bool.true_and]
    · have hz : x.testBit j = false := Nat.testBit_lt_two_pow (Nat.lt_of_lt_of_le hx (by rw [show 4294967296 = 2 ^ 32 from rfl]; exact Nat.pow_le_pow_right (by decide) (by omega)))
      rw [hz, Bool.false_and, Bool.false_and]
theorem o_xor32 (y : Nat) (hy : y < 4294967296) : bits .xor .u32 IntKind.u32.max (y : Int) = ((4294967295 - y : Nat) : Int) := by
  have hm : BitVec.ofInt 32 IntKind.u32.max = BitVec.allOnes 32 := by decide
  show IntKind.u32.wrap ((BitVec.ofInt 32 IntKind.u32.max ^^^ BitVec.ofInt 32 (y : Int)).toNat : Int) = _
  rw [hm, BitVec.allOnes_xor, BitVec.toNat_not, o_ofInt 32 y hy, IntKind.wrap_u32]
  omega
/-- 'x>>i&1 != 0' of a byte -/
theorem o_bit8 (x i : Nat) (hx : x < 256) : (bits .and .u8 ((x : Int) / 2 ^ i) 1 != 0) = x.testBit i := by
  have h1 : ((x : Int) / 2 ^ i) = ((x / 2 ^ i : Nat) : Int) := by rw [Int.natCast_ediv, Int.natCast_pow]; rfl
  have hle : x / 2 ^ i ≤ x := Nat.div_le_self _ _
  rw [h1, show (1 : Int) = ((1 : Nat) : Int) from rfl, o_and8 _ _ (by omega) (by decide), Nat.and_one_is_mod, Nat.testBit_eq_decide_div_mod_eq, Bool.eq_iff_iff, bne_iff_ne, decide_eq_true_iff]
  omega
end Go.Proofs.YtnhniajfnmdnnaaDoor
