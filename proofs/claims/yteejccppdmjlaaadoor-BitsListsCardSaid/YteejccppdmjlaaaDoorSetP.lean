/- The program's Without; sets that are known whole (layer 5). -/
import Derived.Test.YteejccppdmjlaaaDoorBitP
import Derived.Test.YteejccppdmjlaaaDoorBitG
import Derived.Test.YteejccppdmjlaaaDoorBitN
namespace Go.Proofs.YteejccppdmjlaaaDoor
open Go.RowKit

def SetIs (l : List Nat) (w : World) (e : Ending) (w' : World) : Prop := ∃ A c, e = .returned (.slice A l.length c) ∧ Us w' w'.heap.size A l ∧ Below w.heap.size w w'
theorem SetRet.is {p : Nat → Bool} {w w' : World} {e : Ending} (h : SetRet p w e w') (l : List Nat) (ho : Bst.Ok l) (hs : Bst.Short l) (hm : ∀ i, Bst.mem l i = p i) : SetIs l w e w' := by
  obtain ⟨A, c, l', h1, h2, h3, h4, h5, h6, h7⟩ := h
  obtain rfl : l' = l := Bst.ext h4 ho h5 hs fun i => by rw [h6, hm]
  exact ⟨A, c, h1, h2, h7⟩

end Go.Proofs.YteejccppdmjlaaaDoor
