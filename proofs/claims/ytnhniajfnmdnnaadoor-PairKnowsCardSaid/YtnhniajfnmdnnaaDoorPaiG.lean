/- A spot as a law's argument (layer 15). -/
import Derived.Test.YtnhniajfnmdnnaaDoorPaiN
import Derived.Test.YtnhniajfnmdnnaaDoorRowT
namespace Go.Proofs.YtnhniajfnmdnnaaDoor
open Go.RowKit Go.ChangeShapes Go.WideShapes
open Whn (Gr Wh)

def SpOk (x : Sp) : Prop := Wok x.w ∧ I64 x.r
section
variable {H : Type} {enc : TypeId × Value → H} {W : World} {base : Nat} {spare : Nat → Bool} {held : Bool} {r : Reach} {b0 : Nat} {v : Value} {d : DataW H} {p : List MemPlace}
set_option maxRecDepth 20000 in
theorem open_spot (hv : Value.okWide Tryd.prog W r b0 29 v) (h : DataW.Trod enc Tryd.prog W base spare held 29 v d p) : ∃ x : Sp, v = spv x ∧ SpOk x := by
  obtain ⟨cs, rfl, hsz⟩ := okWide_struct Tryd.underlying29 hv
  obtain ⟨fuel, hf⟩ := h
  have hf' : DataW.trod enc Tryd.prog W base spare held fuel 29 cs.toList = some (d, p) := by simpa [Value.cells] using hf
  have hl : cs.toList.length = 5 := by rw [Array.length_toList, hsz]; kernel_rfl
  obtain ⟨o, ho, hok⟩ := el_time Tryd.underlying29 rfl (by kernel_rfl) rfl (by kernel_rfl) (el_when Tryd.underlying27 (by kernel_rfl) Tryd.underlying25 Tryd.underlying5 Tryd.underlying3 Tryd.underlying3) Tryd.underlying3 _ _ _ hl hf'
  refine ⟨⟨o.w, o.c⟩, ?_, hok.1, hok.2⟩
  show Value.agg cs = _
  congr 1
  apply Array.ext'
  rw [ho]
theorem open_gr (hv : Value.okWide Tryd.prog W r b0 23 v) (h : DataW.Trod enc Tryd.prog W base spare held 23 v d p) : ∃ g : Gr, v = gv g ∧ Gok g := by
  obtain ⟨v0, v1, v2, y0, y1, y2, n, rfl, _, _, h0, h1, h2⟩ := Joins.open_agg3 Tryd.underlying23 (by kernel_rfl) (by kernel_rfl) hv h
  obtain ⟨z0, e0, _, k0⟩ := DataW.trod_int Tryd.underlying3 h0
  obtain ⟨z1, e1, _, k1⟩ := DataW.trod_int Tryd.underlying3 h1
  obtain ⟨z2, e2, _, k2⟩ := DataW.trod_int Tryd.underlying3 h2
  simp only [List.cons.injEq, and_true] at e0 e1 e2
  subst e0; subst e1; subst e2
  have := bounds_i64 k0
  have := bounds_i64 k1
  have := bounds_i64 k2
  exact ⟨⟨z0, z1, z2⟩, rfl, by unfold Gok I64; simp only; omega⟩
end
end Go.Proofs.YtnhniajfnmdnnaaDoor
