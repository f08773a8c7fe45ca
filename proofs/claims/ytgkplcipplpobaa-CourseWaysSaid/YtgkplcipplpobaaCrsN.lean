/- A row of classes as a law's argument (layer 14). -/
import Derived.Test.YtgkplcipplpobaaCrsA
namespace Go.Proofs.Ytgkplcipplpobaa
open Go.RowKit Go.ChangeShapes Go.WideShapes
open Whn (Gr Wh)

structure CkA where
  l : List ClA
  a : Option Addr
  c : Nat
abbrev ckA (x : CkA) : Value := .slice x.a x.l.length x.c
def CkIn (w : World) (x : CkA) : Prop := Es enC w w.heap.size x.a x.l ∧ x.l.length ≤ x.c ∧ x.c ≤ maxLen ∧ ∀ y ∈ x.l, ClIn w y
section
variable {H : Type} {enc : TypeId × Value → H} {W : World} {base : Nat} {spare : Nat → Bool} {held : Bool} {r : Reach} {b0 : Nat} {v : Value} {d : DataW H} {p : List MemPlace}
set_option maxRecDepth 20000 in
theorem open_ckA (hv : Value.okWide Try.prog W r b0 32 v) (h : DataW.Trod enc Try.prog W base spare held 32 v d p) : ∃ x : CkA, v = ckA x ∧ CkIn W x := by
  obtain ⟨a, n, c, rfl⟩ := okWide_slice Try.underlying32 hv
  obtain ⟨fuel, hf⟩ := h
  obtain ⟨zs, h1, h2, h3, h4, h5⟩ := open_cls (show DataW.trod enc Try.prog W base spare held fuel 32 [.slice a n c] = some _ from hf)
  subst h2
  exact ⟨⟨zs, a, c⟩, rfl, h1, h3, h4, h5⟩
end
end Go.Proofs.Ytgkplcipplpobaa
