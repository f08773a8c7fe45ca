/- Contracts of the document's own answer for layer 11 (room): Fits. -/
import Derived.Test.YtodhpdaoghbmcaaRomE
namespace Go.Proofs.Ytodhpdaoghbmcaa
open Go.RowKit
open Whn (Gr Wh)

def fitsB (r : Rm) (s : Int) (g : Nat) : Bool := decide (s ≤ r.s) && decide (r.g &&& g = g)
theorem o_and16 (x y : Nat) (hx : x < 65536) (hy : y < 65536) : bits .and .u16 (x : Int) (y : Int) = ((x &&& y : Nat) : Int) := by
  have o (x : Nat) (hx : x < 65536) : (BitVec.ofInt 16 (x : Int)).toNat = x := by
    rw [BitVec.ofInt_natCast, BitVec.toNat_ofNat]; exact Nat.mod_eq_of_lt hx
  show IntKind.u16.wrap ((BitVec.ofInt 16 (x : Int) &&& BitVec.ofInt 16 (y : Int)).toNat : Int) = _
  rw [BitVec.toNat_and, o x hx, o y hy, IntKind.wrap_u16]
  have : x &&& y ≤ x := Nat.and_le_left
  omega
end Go.Proofs.Ytodhpdaoghbmcaa
