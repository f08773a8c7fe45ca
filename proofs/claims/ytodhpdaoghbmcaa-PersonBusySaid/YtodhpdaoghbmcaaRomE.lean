/- Contracts of the document's own answer for layer 11 (room): Same, Right. -/
import Derived.Test.YtodhpdaoghbmcaaRomD
namespace Go.Proofs.Ytodhpdaoghbmcaa
open Go.RowKit
open Whn (Gr Wh)

abbrev rc (r : Rm) (A : Option Addr) (c : Nat) : List Value := [txt r.n, .int .i64 r.s, .int .u16 (r.g : Int), .slice A r.l.length c]
theorem Mem.rm {w X : World} {l : Obs} (h : Mem w X l) {B : Nat} {r : Rm} {A : Option Addr} {c : Nat} (hm : (B, rc r A c, 63) ∈ l) : X.cell? ⟨B, 0, none⟩ = some (txt r.n) ∧ X.cell? ⟨B, 1, none⟩ = some (.int .i64 r.s) ∧ X.cell? ⟨B, 2, none⟩ = some (.int .u16 (r.g : Int)) ∧ X.cell? ⟨B, 3, none⟩ = some (.slice A r.l.length c) :=
  ⟨h.cell hm rfl, h.cell hm rfl, h.cell hm rfl, h.cell hm rfl⟩
def rmRight (g : Gr) (r : Rm) : Bool := Whn.rgrid g && nameOk r.n && decide (0 ≤ r.s) && decide (r.s ≤ 10000) && (r.l.all (Whn.right g) && decide ((r.l.length : Int) ≤ 16))
def rmEq (x y : Rm) : Bool := decide (x.n = y.n) && decide (x.s = y.s) && decide (x.g = y.g) && decide (x.l = y.l)
theorem rmEq_iff (x y : Rm) : rmEq x y = true ↔ x = y := by
  unfold rmEq
  cases x; cases y
  simp [and_assoc]
end Go.Proofs.Ytodhpdaoghbmcaa
