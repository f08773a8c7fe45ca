/- The document's own answer for layer 5: List; the same ints (ref03.Ints). -/
import Derived.Test.YteejccppdmjlaaaSetD
namespace Go.Proofs.Yteejccppdmjlaaa
open Go.RowKit

def il (l : List Nat) : List Int := l.map fun (n : Nat) => (n : Int)
theorem il_len (l : List Nat) : (il l).length = l.length := by unfold il; rw [List.length_map]
theorem il_cells (l : List Nat) : (il l).map (Value.int .i64) = l.map fun (n : Nat) => Value.int .i64 (n : Int) := by unfold il; rw [List.map_map]; rfl
/-- hands out a row of numbers -/
def IlRet (l : List Nat) (w : World) (e : Ending) (w' : World) : Prop := ∃ A c, e = .returned (.slice A l.length c) ∧ Its w' w'.heap.size A (il l) ∧ l.length ≤ c ∧ Below w.heap.size w w'

end Go.Proofs.Yteejccppdmjlaaa
