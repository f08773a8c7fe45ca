/- A room, and rows of rows of numbers, as a law's arguments (layer 11). -/
import Derived.Test.YtodhpdaoghbmcaaRomA
namespace Go.Proofs.Ytodhpdaoghbmcaa
open Go.RowKit
open Go.ChangeShapes Go.WideShapes
open Whn (Gr Wh)

structure RmA where
  r : Rm
  a : Option Addr
  c : Nat
abbrev rvA (x : RmA) : Value := rv x.r x.a x.c
def RmIn (w : World) (x : RmA) : Prop := Rok x.r ∧ Whs w w.heap.size x.a x.r.l ∧ x.r.l.length ≤ x.c ∧ x.c ≤ maxLen
structure LsA where
  l : List (List Int)
  a : Option Addr
  c : Nat
abbrev lsA (x : LsA) : Value := .slice x.a x.l.length x.c
def LsIn (w : World) (x : LsA) : Prop := Rows2 w w.heap.size x.a x.l ∧ x.l.length ≤ x.c ∧ x.c ≤ maxLen ∧ ∀ l ∈ x.l, l.length ≤ maxLen ∧ ∀ i ∈ l, I64 i
section
variable {H : Type} {enc : TypeId × Value → H} {W : World} {base : Nat} {spare : Nat → Bool} {held : Bool} {r : Reach} {b0 : Nat} {v : Value} {d : DataW H} {p : List MemPlace}
set_option maxRecDepth 20000 in
theorem open_roomA (hv : Value.okWide Try.prog W r b0 63 v) (h : DataW.Trod enc Try.prog W base spare held 63 v d p) : ∃ x : RmA, v = rvA x ∧ RmIn W x := by
  obtain ⟨x, A, c, e, h1, h2, h3, h4⟩ := open_room hv h
  exact ⟨⟨x, A, c⟩, e, h1, h2, h3, h4⟩
end
end Go.Proofs.Ytodhpdaoghbmcaa
