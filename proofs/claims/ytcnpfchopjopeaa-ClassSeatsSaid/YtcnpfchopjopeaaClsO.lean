/- A seat, a grid, three numbers as a law's arguments (layer 13). -/
import Derived.Test.YtcnpfchopjopeaaClsB
namespace Go.Proofs.Ytcnpfchopjopeaa
open Go.RowKit Go.ChangeShapes Go.WideShapes
open Whn (Gr Wh)

section
variable {H : Type} {enc : TypeId × Value → H} {W : World} {base : Nat} {spare : Nat → Bool} {held : Bool} {r : Reach} {b0 : Nat} {v : Value} {d : DataW H} {p : List MemPlace}
theorem open_gr (hv : Value.okWide Try.prog W r b0 23 v) (h : DataW.Trod enc Try.prog W base spare held 23 v d p) : ∃ g : Gr, v = gv g ∧ Gok g := by
  obtain ⟨v0, v1, v2, y0, y1, y2, n, rfl, _, _, h0, h1, h2⟩ := Joins.open_agg3 Try.underlying23 (by kernel_rfl) (by kernel_rfl) hv h
  obtain ⟨z0, e0, _, k0⟩ := DataW.trod_int Try.underlying3 h0
  obtain ⟨z1, e1, _, k1⟩ := DataW.trod_int Try.underlying3 h1
  obtain ⟨z2, e2, _, k2⟩ := DataW.trod_int Try.underlying3 h2
  simp only [List.cons.injEq, and_true] at e0 e1 e2
  subst e0; subst e1; subst e2
  have := bounds_i64 k0
  have := bounds_i64 k1
  have := bounds_i64 k2
  exact ⟨⟨z0, z1, z2⟩, rfl, by unfold Gok I64; simp only; omega⟩
/-- three numbers -/
structure T3 where
  a : Int
  b : Int
  c : Int
abbrev t3v (x : T3) : Value := .agg #[.int .i64 x.a, .int .i64 x.b, .int .i64 x.c]
def T3ok (x : T3) : Prop := I64 x.a ∧ I64 x.b ∧ I64 x.c
theorem cells_t3 : Try.prog.cellsOf 24 = 3 := by kernel_rfl
theorem cells_i : Try.prog.cellsOf 3 = 1 := by kernel_rfl
theorem okWide_three {P : Program} {w : World} {r : Reach} {base : Nat} {t e : TypeId} {v : Value} (ht : P.underlying t = some (.array 3 e)) (hC : P.cellsOf t = 3) (h : Value.okWide P w r base t v) : ∃ s0 s1 s2, v = .agg #[s0, s1, s2] := by
  simp only [Value.okWide, ht] at h
  obtain ⟨cs, h1, h2, _⟩ := h
  rw [hC] at h2
  obtain ⟨l⟩ := cs
  match l, h2 with
  | [s0, s1, s2], _ => exact ⟨s0, s1, s2, h1⟩
theorem open_arr3 (hv : Value.okWide Try.prog W r b0 24 v) (h : DataW.Trod enc Try.prog W base spare held 24 v d p) : ∃ x : T3, v = t3v x ∧ T3ok x := by
  obtain ⟨s0, s1, s2, rfl⟩ := okWide_three Try.underlying24 cells_t3 hv
  obtain ⟨fuel, hf⟩ := h
  obtain ⟨xs, m, _, hl, _, hx, hel⟩ := DataW.trod_array Try.underlying24 hf
  have e0 := hel 0 (by decide)
  have e1 := hel 1 (by decide)
  have e2 := hel 2 (by decide)
  rw [cells_i] at e0 e1 e2
  simp [Value.cells] at e0 e1 e2
  obtain ⟨y0, j0⟩ : ∃ y, DataW.trod enc Try.prog W base spare held m 3 [s0] = some y := ⟨_, e0.trans (List.getElem?_eq_getElem (by omega))⟩
  obtain ⟨y1, j1⟩ : ∃ y, DataW.trod enc Try.prog W base spare held m 3 [s1] = some y := ⟨_, e1.trans (List.getElem?_eq_getElem (by omega))⟩
  obtain ⟨y2, j2⟩ : ∃ y, DataW.trod enc Try.prog W base spare held m 3 [s2] = some y := ⟨_, e2.trans (List.getElem?_eq_getElem (by omega))⟩
  obtain ⟨z0, e0, _, k0⟩ := DataW.trod_int Try.underlying3 j0
  obtain ⟨z1, e1, _, k1⟩ := DataW.trod_int Try.underlying3 j1
  obtain ⟨z2, e2, _, k2⟩ := DataW.trod_int Try.underlying3 j2
  simp only [List.cons.injEq, and_true] at e0 e1 e2
  subst e0; subst e1; subst e2
  have := bounds_i64 k0
  have := bounds_i64 k1
  have := bounds_i64 k2
  exact ⟨⟨z0, z1, z2⟩, rfl, by unfold T3ok I64; simp only; omega⟩
theorem open_seat (hv : Value.okWide Try.prog W r b0 41 v) (h : DataW.Trod enc Try.prog W base spare held 41 v d p) : ∃ x : Se, v = sv x ∧ Sok x := by
  obtain ⟨cs, rfl, hsz, n, hf⟩ := open_aggN Try.underlying41 (by kernel_rfl) (by kernel_rfl) hv h
  obtain ⟨v0, y0, g0, h0⟩ := hf 0 _ rfl
  obtain ⟨v1, y1, g1, h1⟩ := hf 1 _ rfl
  obtain ⟨z0, e0, _, k0⟩ := DataW.trod_int Try.underlying3 h0
  obtain ⟨z1, e1, _, k1⟩ := DataW.trod_int Try.underlying3 h1
  simp only [List.cons.injEq, and_true] at e0 e1
  subst e0; subst e1
  have b0 := bounds_i64 k0
  have b1 := bounds_i64 k1
  refine ⟨⟨z0, z1⟩, ?_, by show I64 z0; unfold I64; omega, by show I64 z1; unfold I64; omega⟩
  have hs2 : cs.size = 2 := hsz
  show Value.agg cs = .agg #[_, _]
  congr 1
  refine Array.ext (by rw [hs2]; rfl) fun i h1 h2 => ?_
  rw [hs2] at h1
  have key : cs[i]? = #[Value.int .i64 z0, .int .i64 z1][i]? := by
    match i, h1 with
    | 0, _ => exact g0
    | 1, _ => exact g1
  rw [Array.getElem?_eq_getElem (by rw [hs2]; exact h1), Array.getElem?_eq_getElem h2] at key
  exact Option.some.inj key
end
end Go.Proofs.Ytcnpfchopjopeaa
