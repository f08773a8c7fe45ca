/- A cut through a region that draws its order: where all orders of a stretch meet again. No program's function is spoken of here. -/
import Derived.Test.YtgkplcipplpobaaCrsP
namespace Go.Proofs.Ytgkplcipplpobaa
open Go.RowKit

section
variable {P : Program} {ops : Array Oper} {Q : Exit → Act → World → Prop} {md : Region.Mode} {S : World → Prop}
/-- what stands behind the stretch is shown once, of whatever state C speaks of; each order of the stretch ends in it -/
theorem wpAnyH_cut {fuel : Nat} {listed : Array Bool} {a : Act} {w : World} (fuel2 : Nat) (listed2 : Array Bool) (C : Act → World → Prop)
    (h : ∀ a' w', C a' w' → wpAnyH P md ops Q S fuel2 listed2 a' w') (g : (∀ a' w', C a' w' → wpAnyH P md ops Q S fuel2 listed2 a' w') → wpAnyH P md ops Q S fuel listed a w) : wpAnyH P md ops Q S fuel listed a w := g h
end
end Go.Proofs.Ytgkplcipplpobaa
