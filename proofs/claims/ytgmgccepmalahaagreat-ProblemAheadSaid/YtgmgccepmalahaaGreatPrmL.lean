/- A rule as a law's argument. -/
import Derived.Test.YtgmgccepmalahaaGreatPrmK
namespace Go.Proofs.YtgmgccepmalahaaGreat
open Go.RowKit Go.ChangeShapes Go.WideShapes
open Whn (Gr Wh)
abbrev rlvA (x : RlA) : Value := rlv x.x x.r x.c
section
variable {H : Type} {enc : TypeId × Value → H} {W : World} {base : Nat} {spare : Nat → Bool} {held : Bool} {r : Reach} {b0 : Nat} {v : Value} {d : DataW H} {p : List MemPlace}
set_option maxRecDepth 20000 in
theorem open_ruleA (hv : Value.okWide Tryz.prog W r b0 45 v) (h : DataW.Trod enc Tryz.prog W base spare held 45 v d p) : ∃ x : RlA, v = rlvA x ∧ RlIn W x := by
  obtain ⟨cs, rfl, hsz⟩ := okWide_struct Tryz.underlying45 hv
  have hC : Tryz.prog.cellsOf 45 = 6 := by kernel_rfl
  rw [hC] at hsz
  obtain ⟨fuel, hf⟩ := h
  have hf' : DataW.trod enc Tryz.prog W base spare held fuel 45 cs.toList = some (d, p) := by simpa [Value.cells] using hf
  obtain ⟨o, ho, hin⟩ := el_rule fuel cs.toList _ (by rw [Array.length_toList]; exact hsz) hf'
  refine ⟨o, ?_, hin⟩
  have : cs = cs.toList.toArray := (Array.toArray_toList ..).symm
  rw [this, ho]
end
end Go.Proofs.YtgmgccepmalahaaGreat
