/- Dice as a value: a struct of one integer, by value, opened. -/
import Derived.Test.YtdhapddconoegaaSumR
import Derived.Lib.SmallJoins
namespace Go.Proofs.Ytdhapddconoegaa
open Go.RowKit Go.ChangeShapes Go.WideShapes

/-- a struct of one integer by value, opened -/
theorem open_agg1 {H : Type} {enc : TypeId × Value → H} {P : Program} {w : World} {base : Nat} {spare : Nat → Bool} {held : Bool} {r : Reach} {b0 : Nat} {t : TypeId} {f0 : Field} {k : IntKind} {v : Value} {d : DataW H} {p : List MemPlace} (hs : P.underlying t = some (.struct #[f0])) (hone : Go.Deep.oneCellFields P #[f0] = true) (hC : P.cellsOf t = 1)
    (h0 : P.underlying f0.type = some (.int k)) (hv : Value.okWide P w r b0 t v) (h : DataW.Trod enc P w base spare held t v d p) : ∃ n, v = .agg #[.int k n] ∧ (Lit.int k n).wf = true := by
  obtain ⟨cs, rfl, hsz⟩ := okWide_struct hs hv
  obtain ⟨c0, rfl⟩ : ∃ c0, cs = #[c0] := by
    obtain ⟨l⟩ := cs
    match l, hsz.trans hC with
    | [c0], _ => exact ⟨c0, rfl⟩
  obtain ⟨fuel, hf⟩ := h
  obtain ⟨y0, n, _, _, h1⟩ := trod_struct1 hs hf
  obtain ⟨o0, k0⟩ := Go.Deep.hone_of hone 0 f0 rfl
  have h2 : DataW.trod enc P w base spare held n f0.type [c0] = some y0 := by simpa [Value.cells, o0, k0] using h1
  obtain ⟨z, e0, _, hz0⟩ := DataW.trod_int h0 h2
  simp only [List.cons.injEq, and_true] at e0
  exact ⟨z, by rw [e0], hz0⟩

end Go.Proofs.Ytdhapddconoegaa
