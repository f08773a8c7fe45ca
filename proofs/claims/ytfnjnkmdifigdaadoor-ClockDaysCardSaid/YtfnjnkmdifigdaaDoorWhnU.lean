/- Contracts of the document's own answer for layer 9 (when): Meet, Gap. -/
import Derived.Test.YtfnjnkmdifigdaaDoorWhnT
namespace Go.Proofs.YtfnjnkmdifigdaaDoor
open Go.RowKit
open Whn (Gr Wh)

theorem tame_of_sameDay {a b : Wh} (h : Whn.sameDay a b = true) : Whn.tame a = true ∧ Whn.tame b = true := by
  unfold Whn.sameDay at h
  rw [Bool.and_eq_true, Bool.and_eq_true] at h
  exact ⟨h.1, h.2.1⟩
end Go.Proofs.YtfnjnkmdifigdaaDoor
