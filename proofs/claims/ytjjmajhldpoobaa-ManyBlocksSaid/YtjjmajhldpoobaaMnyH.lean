/- A grid, two numbers, a row of times as a law's arguments (layer 16). -/
import Derived.Test.YtjjmajhldpoobaaMnyG
namespace Go.Proofs.Ytjjmajhldpoobaa
open Go.RowKit Go.ChangeShapes Go.WideShapes
open Whn (Gr Wh)

/-- two numbers -/
structure T2 where
  a : Int
  b : Int
abbrev t2v (x : T2) : Value := .agg #[.int .i64 x.a, .int .i64 x.b]
def T2ok (x : T2) : Prop := I64 x.a ∧ I64 x.b
theorem cells_t2 : Try.prog.cellsOf 25 = 2 := by kernel_rfl
theorem cells_i : Try.prog.cellsOf 3 = 1 := by kernel_rfl
theorem okWide_two {P : Program} {w : World} {r : Reach} {base : Nat} {t e : TypeId} {v : Value} (ht : P.underlying t = some (.array 2 e)) (hC : P.cellsOf t = 2) (h : Value.okWide P w r base t v) : ∃ s0 s1, v = .agg #[s0, s1] := by
  simp only [Value.okWide, ht] at h
  obtain ⟨cs, h1, h2, _⟩ := h
  rw [hC] at h2
  obtain ⟨l⟩ := cs
  match l, h2 with
  | [s0, s1], _ => exact ⟨s0, s1, h1⟩
structure WsA where
  l : List Wh
  a : Option Addr
  c : Nat
abbrev wsA (x : WsA) : Value := .slice x.a x.l.length x.c
def WsIn (w : World) (x : WsA) : Prop := Whs w w.heap.size x.a x.l ∧ x.l.length ≤ x.c ∧ x.c ≤ maxLen ∧ ∀ y ∈ x.l, Wok y
section
variable {H : Type} {enc : TypeId × Value → H} {W : World} {base : Nat} {spare : Nat → Bool} {held : Bool} {r : Reach} {b0 : Nat} {v : Value} {d : DataW H} {p : List MemPlace}
theorem open_gr (hv : Value.okWide Try.prog W r b0 23 v) (h : DataW.Trod enc Try.prog W base spare held 23 v d p) : ∃ g : Gr, v = gv g ∧ Gok g := by
  obtain ⟨v0, v1, v2, y0, y1, y2, n, rfl, _, _, h0, h1, h2⟩ := Joins.open_agg3 Try.underlying23 (by kernel_rfl) (by kernel_rfl) hv h
  obtain ⟨z0, e0, _, k0⟩ := DataW.trod_int Try.underlying3 h0
  obtain ⟨z1, e1, _, k1⟩ := DataW.trod_int Try.underlying3 h1
  obtain ⟨z2, e2, _, k2⟩ := DataW.trod_int Try.underlying3 h2
  simp only [List.cons.injEq, and_true] at e0 e1 e2
  subst e0; subst e1; subst e2
  have := bounds_i64 k0
  have := bounds_i64 k1
  have := bounds_i64 k2
  exact ⟨⟨z0, z1, z2⟩, rfl, by unfold Gok I64; simp only; omega⟩
theorem open_arr2 (hv : Value.okWide Try.prog W r b0 25 v) (h : DataW.Trod enc Try.prog W base spare held 25 v d p) : ∃ x : T2, v = t2v x ∧ T2ok x := by
  obtain ⟨s0, s1, rfl⟩ := okWide_two Try.underlying25 cells_t2 hv
  obtain ⟨fuel, hf⟩ := h
  obtain ⟨xs, m, _, hl, _, hx, hel⟩ := DataW.trod_array Try.underlying25 hf
  have e0 := hel 0 (by decide)
  have e1 := hel 1 (by decide)
  rw [cells_i] at e0 e1
  simp [Value.cells] at e0 e1
  obtain ⟨y0, j0⟩ : ∃ y, DataW.trod enc Try.prog W base spare held m 3 [s0] = some y := ⟨_, e0.trans (List.getElem?_eq_getElem (by omega))⟩
  obtain ⟨y1, j1⟩ : ∃ y, DataW.trod enc Try.prog W base spare held m 3 [s1] = some y := ⟨_, e1.trans (List.getElem?_eq_getElem (by omega))⟩
  obtain ⟨z0, e0, _, k0⟩ := DataW.trod_int Try.underlying3 j0
  obtain ⟨z1, e1, _, k1⟩ := DataW.trod_int Try.underlying3 j1
  simp only [List.cons.injEq, and_true] at e0 e1
  subst e0; subst e1
  have := bounds_i64 k0
  have := bounds_i64 k1
  exact ⟨⟨z0, z1⟩, rfl, by unfold T2ok I64; simp only; omega⟩
set_option maxRecDepth 20000 in
theorem open_wsA (hv : Value.okWide Try.prog W r b0 26 v) (h : DataW.Trod enc Try.prog W base spare held 26 v d p) : ∃ x : WsA, v = wsA x ∧ WsIn W x := by
  obtain ⟨a, n, c, rfl⟩ := okWide_slice Try.underlying26 hv
  obtain ⟨fuel, hf⟩ := h
  obtain ⟨A, c', l, e, hw, hl, hc, hok⟩ := open_whs Try.underlying26 Try.underlying48 (by kernel_rfl) (by kernel_rfl) Try.underlying46 Try.underlying5 Try.underlying3 Try.underlying3 hf
  have e1 : Value.slice a n c = .slice A l.length c' := by
    have e0 : (Value.slice a n c).cells.toList = [.slice a n c] := rfl
    have := e0.symm.trans e
    injection this
  exact ⟨⟨l, A, c'⟩, e1, hw, hl, hc, hok⟩
end
end Go.Proofs.Ytjjmajhldpoobaa
