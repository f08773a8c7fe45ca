/- Whether the cheapest seat was met (layer 13). -/
import Derived.Test.YtcnpfchopjopeaaCltF
namespace Go.Proofs.Ytcnpfchopjopeaa
open Go.RowKit Go.Shelf
open Whn (Gr Wh)

/-- was this seat met, at what it costs? -/
def metB (x : Cl) (b : Se) (ls : Int) (pre : List Se) : Bool := pre.any fun s => seEq s b && decide (costT x s = ls - costP x s)
theorem met_snoc (x : Cl) (b : Se) (ls : Int) (pre : List Se) (s : Se) : metB x b ls (pre ++ [s]) = (metB x b ls pre || (seEq s b && decide (costT x s = ls - costP x s))) := by
  unfold metB
  rw [List.any_append]
  simp only [List.any_cons, List.any_nil, Bool.or_false]
theorem met_all {x : Cl} {b : Se} {ls : Int} (h : b ∈ seats x) (hs : ls = costT x b + costP x b) : metB x b ls (seats x) = true := by
  unfold metB
  rw [List.any_eq_true]
  exact ⟨b, h, by rw [(seEq_iff b b).2 rfl, decide_eq_true (show costT x b = ls - costP x b by omega)]; rfl⟩
theorem keeps_below {X Y : World} (h : Below X.heap.size X Y) : KeepsOthers X Y := ⟨h.size, fun i _ hi _ => (h.block i (Array.getElem?_eq_some_iff.1 hi).1).trans hi⟩
end Go.Proofs.Ytcnpfchopjopeaa
