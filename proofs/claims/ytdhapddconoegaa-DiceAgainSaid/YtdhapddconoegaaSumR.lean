/- Contracts of the document's own answer for layer 4: More, Crc, Mix, turned, Unmix, Digest. -/
import Derived.Test.YtdhapddconoegaaRowB
import Derived.Test.YtdhapddconoegaaSumM
import Derived.Laws.Bits64
namespace Go.Proofs.Ytdhapddconoegaa
open Go.RowKit

theorem bits_xor_u32_nat (a b : Nat) (ha : a < 4294967296) (hb : b < 4294967296) : bits .xor .u32 (a : Int) (b : Int) = ((a ^^^ b : Nat) : Int) := by
  have hx : a ^^^ b < 2 ^ 32 := Nat.xor_lt_two_pow (by omega) (by omega)
  have h1 : (BitVec.ofInt 32 (a : Int)).toNat = a := by
    rw [BitVec.ofInt_natCast, BitVec.toNat_ofNat]; exact Nat.mod_eq_of_lt (by omega)
  have h2 : (BitVec.ofInt 32 (b : Int)).toNat = b := by
    rw [BitVec.ofInt_natCast, BitVec.toNat_ofNat]; exact Nat.mod_eq_of_lt (by omega)
  show IntKind.u32.wrap ((BitVec.ofInt 32 (a : Int) ^^^ BitVec.ofInt 32 (b : Int)).toNat : Int) = _
  rw [BitVec.toNat_xor, h1, h2, IntKind.wrap_u32]
  omega

def IntRet (k : IntKind) (v : Nat) (w : World) (e : Ending) (w' : World) : Prop := e = .returned (.int k (v : Int)) ∧ w = w'
theorem IntRet.mk {k : IntKind} {v : Nat} {x : Int} (w : World) (h : x = v) : IntRet k v w (.returned (.int k x)) w := by unfold IntRet; rw [h]; exact ⟨rfl, rfl⟩

theorem sh_next (j c : Nat) : Sum.sh (j + 1) c = Sum.S (Sum.sh j c) := by rw [Sum.sh_add]; rfl
theorem reg_take (c : Nat) (l : List UInt8) (k : Nat) (x : UInt8) (hk : k < l.length) (hx : l.getD k 0 = x) : Sum.reg c (l.take (k + 1)) = Sum.by8 (Sum.reg c (l.take k)) x := by
  rw [List.take_succ_eq_append_getElem hk, Sum.reg_snoc, ← hx, List.getD_eq_getElem?_getD, List.getElem?_eq_getElem hk]
  rfl

/-! ### numbers that are stirred -/
theorem i_xs32 (a : Nat) (h : a < Sum.M) : bits .xor .u64 (a : Int) ((a : Int) / 4294967296) = ((Sum.xs 32 a : Nat) : Int) := by
  unfold Sum.M at h
  have e : (a : Int) / 4294967296 = ((a / 2 ^ 32 : Nat) : Int) := by omega
  rw [e, bits_xor_u64_nat a _ h (by omega)]
  rfl
theorem i_xs29 (a : Nat) (h : a < Sum.M) : bits .xor .u64 (a : Int) ((a : Int) / 536870912) = ((Sum.xs 29 a : Nat) : Int) := by
  unfold Sum.M at h
  have e : (a : Int) / 536870912 = ((a / 2 ^ 29 : Nat) : Int) := by omega
  rw [e, bits_xor_u64_nat a _ h (by omega)]
  rfl
theorem i_mul (a k : Nat) : IntKind.u64.wrap ((a : Int) * (k : Int)) = ((a * k % Sum.M : Nat) : Int) := by
  rw [IntKind.wrap_u64, ← Int.natCast_mul]
  unfold Sum.M
  generalize a * k = p
  omega

theorem i_KA (a : Nat) : IntKind.u64.wrap ((a : Int) * 11400714819323198485) = ((a * Sum.KA % Sum.M : Nat) : Int) := i_mul a Sum.KA
theorem i_KB (a : Nat) : IntKind.u64.wrap ((a : Int) * 15485907386658061715) = ((a * Sum.KB % Sum.M : Nat) : Int) := i_mul a Sum.KB

set_option maxHeartbeats 1000000 in
theorem r_Mix (n : Nat) (hn : n < 18446744073709551616) (w : World) : Calls Try.prog 21 #[.int .u64 (n : Int)] w (IntRet .u64 (Sum.mix n) w) := by
  have h1 := Sum.xs_lt 32 n hn
  have h2 : Sum.xs 32 n * Sum.KA % Sum.M < Sum.M := Nat.mod_lt _ Sum.M_pos
  have h3 := Sum.xs_lt 29 _ h2
  have h4 : Sum.xs 29 (Sum.xs 32 n * Sum.KA % Sum.M) * Sum.KB % Sum.M < Sum.M := Nat.mod_lt _ Sum.M_pos
  have Hres := hid (show Sum.mix n = Sum.xs 32 (Sum.xs 29 (Sum.xs 32 n * Sum.KA % Sum.M) * Sum.KB % Sum.M) from rfl)
  have E1 := i_xs32 n hn
  have E2 := i_KA (Sum.xs 32 n)
  have E3 := i_xs29 _ h2
  have E4 := i_KB (Sum.xs 29 (Sum.xs 32 n * Sum.KA % Sum.M))
  have E5 := i_xs32 _ h4
  generalize Sum.xs 29 (Sum.xs 32 n * Sum.KA % Sum.M) * Sum.KB % Sum.M = x4 at *
  generalize Sum.xs 29 (Sum.xs 32 n * Sum.KA % Sum.M) = x3 at *
  generalize Sum.xs 32 n * Sum.KA % Sum.M = x2 at *
  generalize Sum.xs 32 n = x1 at *
  generalize Sum.xs 32 x4 = x5 at *
  unfold Sum.M at h1 h2 h3 h4
  have b2 : (x2 : Int) < 18446744073709551616 := by omega
  have b4 : (x4 : Int) < 18446744073709551616 := by omega
  clear h1 h2 h3 h4
  go_enter Try.func21, Try.ntmps21
  go_wp2_with fail
  go_ret
  exact IntRet.mk _ (by rw [Hres.out])
end Go.Proofs.Ytdhapddconoegaa
