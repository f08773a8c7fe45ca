/- Definitions, and small facts of them, out of what follows. The document's own answers for layer 17 (problem): sameRule, Same. -/
import Derived.Test.YtgmgccepmalahaaGreatPqB
namespace Go.Proofs.YtgmgccepmalahaaGreat
open Go.RowKit
open Whn (Gr Wh)

def rlEq (x y : Rl) : Bool := decide (x.k = y.k) && (decide (x.l = y.l) && (decide (x.a = y.a) && (decide (x.b = y.b) && (decide (x.h = y.h) && decide (x.c = y.c)))))
theorem rlEq_iff (x y : Rl) : rlEq x y = true ↔ x = y := by
  unfold rlEq
  simp only [Bool.and_eq_true, decide_eq_true_iff]
  cases x; cases y
  simp
end Go.Proofs.YtgmgccepmalahaaGreat
