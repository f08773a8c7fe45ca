/- few, and what came in (layer 11). -/
import Derived.Test.YtodhpdaoghbmcaaRomY
import Derived.Test.YtodhpdaoghbmcaaRomI
namespace Go.Proofs.Ytodhpdaoghbmcaa
open Go.RowKit Go.ChangeShapes Go.WideShapes
open Whn (Gr Wh)

def fewB (r : Rm) : Bool := decide ((r.l.length : Int) ≤ 30)
set_option maxRecDepth 4000 in
theorem p_IntsSame (l : List Int) (hl : l.length ≤ maxLen) (A A2 : Option Addr) (c c2 : Nat) (X : World) (h : Its X X.heap.size A l) (h2 : Its X X.heap.size A2 l) : Calls Try.prog 16 #[.slice A l.length c, .slice A2 l.length c2] X (BoolDraw true X) := by
  have := p_Ints A A2 l.length l.length c c2 l l rfl rfl X _ _ h h2 hl
  rwa [decide_eq_true rfl] at this
section
variable {H : Type} {enc : TypeId × Value → H} {W : World} {base : Nat} {spare : Nat → Bool} {held : Bool} {r : Reach} {b0 : Nat} {v : Value} {d : DataW H} {p : List MemPlace}
set_option maxRecDepth 20000 in
theorem open_gr (hv : Value.okWide Try.prog W r b0 23 v) (h : DataW.Trod enc Try.prog W base spare held 23 v d p) : ∃ g : Gr, v = gv g ∧ Gok g := by
  obtain ⟨v0, v1, v2, y0, y1, y2, n, rfl, _, _, h0, h1, h2⟩ := Joins.open_agg3 Try.underlying23 (by kernel_rfl) (by kernel_rfl) hv h
  obtain ⟨z0, e0, _, k0⟩ := DataW.trod_int Try.underlying3 h0
  obtain ⟨z1, e1, _, k1⟩ := DataW.trod_int Try.underlying3 h1
  obtain ⟨z2, e2, _, k2⟩ := DataW.trod_int Try.underlying3 h2
  simp only [List.cons.injEq, and_true] at e0 e1 e2
  subst e0; subst e1; subst e2
  have := bounds_i64 k0
  have := bounds_i64 k1
  have := bounds_i64 k2
  exact ⟨⟨z0, z1, z2⟩, rfl, by unfold Gok I64; simp only; omega⟩
set_option maxRecDepth 20000 in
theorem open_wh (hv : Value.okWide Try.prog W r b0 29 v) (h : DataW.Trod enc Try.prog W base spare held 29 v d p) : ∃ x : Wh, v = wv x ∧ Wok x := by
  obtain ⟨v0, v1, v2, v3, y0, y1, y2, y3, n, rfl, _, _, h0, h1, h2, h3⟩ := Joins.open_agg4 Try.underlying29 (by kernel_rfl) (by kernel_rfl) hv h
  obtain ⟨z0, e0, _, k0⟩ := DataW.trod_int Try.underlying27 h0
  obtain ⟨z1, e1, _, k1⟩ := DataW.trod_int Try.underlying5 h1
  obtain ⟨z2, e2, _, k2⟩ := DataW.trod_int Try.underlying3 h2
  obtain ⟨z3, e3, _, k3⟩ := DataW.trod_int Try.underlying3 h3
  simp only [List.cons.injEq, and_true] at e0 e1 e2 e3
  subst e0; subst e1; subst e2; subst e3
  have q0 := bounds_u32 k0
  have q1 := bounds_u8 k1
  have := bounds_i64 k2
  have := bounds_i64 k3
  obtain ⟨n0, rfl⟩ := Int.eq_ofNat_of_zero_le q0.1
  obtain ⟨n1, rfl⟩ := Int.eq_ofNat_of_zero_le q1.1
  exact ⟨⟨n0, n1, z2, z3⟩, rfl, by unfold Wok I64; simp only; omega⟩
end
end Go.Proofs.Ytodhpdaoghbmcaa
