/- Definitions, and small facts of them, out of what follows. Contracts of the document's own answer for layer 11 (room): RightWalk. -/
import Derived.Test.YtgmgccepmalahaaGreatPqB
namespace Go.Proofs.YtgmgccepmalahaaGreat
open Go.RowKit

def cl (ls : List (List Int)) (i k : Nat) : Int := (ls.getD i []).getD k 0
def cok (ls : List (List Int)) (i k : Nat) : Prop := 0 ≤ cl ls i k ∧ cl ls i k ≤ 96 ∧ cl ls i k = cl ls k i ∧ (i = k → cl ls i k = 0)
instance (ls : List (List Int)) (i k : Nat) : Decidable (cok ls i k) := by unfold cok; infer_instance
def rwOk (n : Int) (ls : List (List Int)) : Bool := decide (0 ≤ n ∧ n ≤ 24 ∧ (ls.length : Int) = n ∧ (∀ r ∈ ls, r.length = ls.length) ∧ ∀ i, i < ls.length → ∀ k, k < ls.length → cok ls i k)
theorem cl_of {ls : List (List Int)} {i k : Nat} {r : List Int} {x : Int} (h : ls[i]? = some r) (h2 : r[k]? = some x) : cl ls i k = x := by
  unfold cl
  rw [List.getD_eq_getElem?_getD (l := ls), h]
  show r.getD k 0 = x
  rw [List.getD_eq_getElem?_getD, h2]; rfl
end Go.Proofs.YtgmgccepmalahaaGreat
