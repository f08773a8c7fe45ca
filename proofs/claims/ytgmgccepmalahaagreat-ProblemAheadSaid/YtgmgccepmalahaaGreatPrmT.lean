/- The greatest of six lengths, as the law asks for it. -/
import Derived.Test.YtgmgccepmalahaaGreatPrmR
import Derived.Test.YtgmgccepmalahaaGreatPrmS
import Derived.Test.YtgmgccepmalahaaGreatPrbQ
import Derived.Test.YtgmgccepmalahaaGreatPrmL
namespace Go.Proofs.YtgmgccepmalahaaGreat
open Go.RowKit
theorem run_max2 {P : Program} (a b : Int) (w : World) : (Builtin.max2 (.int .i64 a) (.int .i64 b)).run P w = .ok (.int .i64 (if a < b then b else a)) w := by
  unfold Builtin.max2
  by_cases h : a < b <;> simp [go_sem, h] <;> omega
theorem run_max6 {P : Program} (ts : Array TypeId) (t : TypeId) (a b c d e f : Int) (w : World) : ∃ m : Int, (Builtin.max_ ts t #[.int .i64 a, .int .i64 b, .int .i64 c, .int .i64 d, .int .i64 e, .int .i64 f]).run P w = .ok (.int .i64 m) w ∧ a ≤ m ∧ b ≤ m ∧ c ≤ m ∧ d ≤ m ∧ e ≤ m ∧ f ≤ m := by
  refine ⟨_, by simp [Builtin.max_, go_sem, run_max2, List.foldlM]; rfl, ?_⟩
  refine ⟨?_, ?_, ?_, ?_, ?_, ?_⟩ <;> (repeat' split) <;> omega
end Go.Proofs.YtgmgccepmalahaaGreat
