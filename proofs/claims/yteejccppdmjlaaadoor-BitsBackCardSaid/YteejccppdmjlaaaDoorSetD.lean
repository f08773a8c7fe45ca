/- The document's own answer for layer 5: With, Without, Of, List. -/
import Derived.Test.YteejccppdmjlaaaDoorSetC
namespace Go.Proofs.YteejccppdmjlaaaDoor
open Go.RowKit

def pWith (s : List Nat) (i : Int) (j : Nat) : Bool := Bst.mem s j || (decide (0 ≤ i ∧ i < 4096) && decide ((j : Int) = i))
def pWithout (s : List Nat) (i : Int) (j : Nat) : Bool := Bst.mem s j && !decide ((j : Int) = i)
def pOf (l : List Int) (j : Nat) : Bool := decide (j < 4096) && decide ((j : Int) ∈ l)

end Go.Proofs.YteejccppdmjlaaaDoor
