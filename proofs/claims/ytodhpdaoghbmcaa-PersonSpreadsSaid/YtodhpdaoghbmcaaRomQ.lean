/- Contracts of the program's own functions of layer 11 (room): square, RightWalk. -/
import Derived.Test.YtodhpdaoghbmcaaRomO
namespace Go.Proofs.Ytodhpdaoghbmcaa
open Go.RowKit

def sqB (n : Int) (ls : List (List Int)) : Bool := decide ((ls.length : Int) = n ∧ ∀ r ∈ ls, (r.length : Int) = n)
theorem rwOk_of (n : Int) (ls : List (List Int)) : rwOk n ls = (inB n 0 24 && (sqB n ls && decide (∀ i, i < ls.length → cl ls i i = 0 ∧ ∀ k, k < ls.length → 0 ≤ cl ls i k ∧ cl ls i k ≤ 96 ∧ cl ls i k = cl ls k i))) := by
  unfold rwOk inB sqB cok
  rw [Bool.eq_iff_iff]
  simp only [Bool.and_eq_true, decide_eq_true_iff]
  constructor
  · rintro ⟨h1, h2, h3, h4, h5⟩
    refine ⟨⟨h1, h2⟩, ⟨h3, fun r hr => by rw [h4 r hr]; exact h3⟩, fun i hi => ⟨(h5 i hi i hi).2.2.2 rfl, fun k hk => ?_⟩⟩
    obtain ⟨q1, q2, q3, _⟩ := h5 i hi k hk
    exact ⟨q1, q2, q3⟩
  · rintro ⟨⟨h1, h2⟩, ⟨h3, h4⟩, h5⟩
    refine ⟨h1, h2, h3, fun r hr => by have := h4 r hr; omega, fun i hi k hk => ?_⟩
    obtain ⟨q0, q1⟩ := h5 i hi
    obtain ⟨q1, q2, q3⟩ := q1 k hk
    exact ⟨q1, q2, q3, fun e => by subst e; exact q0⟩
end Go.Proofs.Ytodhpdaoghbmcaa
