/- Contracts of the document's own answer for layer 11 (room): Fits. -/
import Derived.Test.YteldcaebbmaemaaRomE
namespace Go.Proofs.Yteldcaebbmaemaa
open Go.RowKit
open Whn (Gr Wh)

def fitsB (r : Rm) (s : Int) (g : Nat) : Bool := decide (s ≤ r.s) && decide (r.g &&& g = g)
theorem o_and16 (x y : Nat) (hx : x < 65536) (hy : y < 65536) : bits .and .u16 (x : Int) (y : Int) = ((x &&& y : Nat) : Int) := by
  have o (x : Nat) (hx : x < 65536) : (BitVec.ofInt 16 (x : Int)).toNat = x := by
    rw [BitVec.ofInt_natCast, BitVec.toNat_ofNat]; exact Nat.mod_eq_of_lt hx
  show IntKind.u16.wrap ((BitVec.ofInt 16 (x : Int) &&& BitVec.ofInt 16 (y : Int)).toNat : Int) = _
  rw [BitVec.toNat_and, o x hx, o y hy, IntKind.wrap_u16]
  have : x &&& y ≤ x := Nat.and_le_left
  omega
set_option maxHeartbeats 2000000 in
theorem r_Fits (r : Rm) (A : Option Addr) (c : Nat) (hg : r.g < 65536) (s : Int) (g : Nat) (hg2 : g < 65536) (w : World) :
    Calls Try.prog 19 #[rv r A c, .int .i64 s, .int .u16 (g : Int)] w (Did (.bool (fitsB r s g)) w) := by
  have Hr := hid (show fitsB r s g = (decide (s ≤ r.s) && decide (r.g &&& g = g)) from rfl)
  obtain ⟨P, W, hP, hW, K, hb0⟩ := (Mem.nil w).one (rc r A c) 27
  obtain ⟨r0, r1, r2, r3⟩ := K.out.rm (B := P) (r := r) (A := A) (c := c) (by simp)
  by_cases h1 : s ≤ r.s
  · have ha := hid (show (bits .and .u16 (r.g : Int) (g : Int) == (g : Int)) = decide (r.g &&& g = g) by
      rw [o_and16 _ _ hg hg2, Bool.eq_iff_iff, beq_iff_eq, decide_eq_true_iff]
      exact ⟨fun h => by omega, fun h => by omega⟩)
    go_enter Try.func19, Try.ntmps19
    go_wp2_with fail
    go_ret
    refine Did.mk ?_ K.out.2
    rw [Hr.out, decide_eq_true h1, ← ha.out]
    rfl
  · have h2 : r.s < s := by omega
    rw [decide_eq_false h1] at Hr
    clear h1
    go_enter Try.func19, Try.ntmps19
    go_wp2_with fail
    go_ret
    exact Did.mk (by rw [Hr.out]; rfl) K.out.2
end Go.Proofs.Yteldcaebbmaemaa
