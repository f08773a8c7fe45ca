/- What comes into the laws of layer 9: a grid, a time, three numbers; the library's table, out of the row's condition. -/
import Derived.Test.YtcdldgmgmbopdaaDoorWhnG
import Derived.Test.YtcdldgmgmbopdaaDoorRows
import Derived.Lib.LaidTab
import Derived.MakeChecks
namespace Go.Proofs.YtcdldgmgmbopdaaDoor
open Go.RowKit Go.ChangeShapes Go.WideShapes
open Whn (Gr Wh)

section
variable {H : Type} {enc : TypeId × Value → H} {W : World} {base : Nat} {spare : Nat → Bool} {held : Bool} {r : Reach} {b0 : Nat} {v : Value} {d : DataW H} {p : List MemPlace}
theorem open_gr (hv : Value.okWide Tryd.prog W r b0 23 v) (h : DataW.Trod enc Tryd.prog W base spare held 23 v d p) : ∃ g : Gr, v = gv g ∧ Gok g := by
  obtain ⟨v0, v1, v2, y0, y1, y2, n, rfl, _, _, h0, h1, h2⟩ := Joins.open_agg3 Tryd.underlying23 (by kernel_rfl) (by kernel_rfl) hv h
  obtain ⟨z0, e0, _, k0⟩ := DataW.trod_int Tryd.underlying3 h0
  obtain ⟨z1, e1, _, k1⟩ := DataW.trod_int Tryd.underlying3 h1
  obtain ⟨z2, e2, _, k2⟩ := DataW.trod_int Tryd.underlying3 h2
  simp only [List.cons.injEq, and_true] at e0 e1 e2
  subst e0; subst e1; subst e2
  have := bounds_i64 k0
  have := bounds_i64 k1
  have := bounds_i64 k2
  exact ⟨⟨z0, z1, z2⟩, rfl, by unfold Gok I64; simp only; omega⟩
theorem open_wh (hv : Value.okWide Tryd.prog W r b0 26 v) (h : DataW.Trod enc Tryd.prog W base spare held 26 v d p) : ∃ x : Wh, v = wv x ∧ Wok x := by
  obtain ⟨v0, v1, v2, v3, y0, y1, y2, y3, n, rfl, _, _, h0, h1, h2, h3⟩ := Joins.open_agg4 Tryd.underlying26 (by kernel_rfl) (by kernel_rfl) hv h
  obtain ⟨z0, e0, _, k0⟩ := DataW.trod_int Tryd.underlying24 h0
  obtain ⟨z1, e1, _, k1⟩ := DataW.trod_int Tryd.underlying5 h1
  obtain ⟨z2, e2, _, k2⟩ := DataW.trod_int Tryd.underlying3 h2
  obtain ⟨z3, e3, _, k3⟩ := DataW.trod_int Tryd.underlying3 h3
  simp only [List.cons.injEq, and_true] at e0 e1 e2 e3
  subst e0; subst e1; subst e2; subst e3
  have q0 := bounds_u32 k0
  have q1 := bounds_u8 k1
  have := bounds_i64 k2
  have := bounds_i64 k3
  obtain ⟨n0, rfl⟩ := Int.eq_ofNat_of_zero_le q0.1
  obtain ⟨n1, rfl⟩ := Int.eq_ofNat_of_zero_le q1.1
  exact ⟨⟨n0, n1, z2, z3⟩, rfl, by unfold Wok I64; simp only; omega⟩
/-- three numbers -/
structure T3 where
  a : Int
  b : Int
  c : Int
abbrev t3v (x : T3) : Value := .agg #[.int .i64 x.a, .int .i64 x.b, .int .i64 x.c]
def T3ok (x : T3) : Prop := I64 x.a ∧ I64 x.b ∧ I64 x.c
theorem cells_t3 : Tryd.prog.cellsOf 39 = 3 := by kernel_rfl
theorem cells_i : Tryd.prog.cellsOf 3 = 1 := by kernel_rfl
theorem okWide_three {P : Program} {w : World} {r : Reach} {base : Nat} {t e : TypeId} {v : Value} (ht : P.underlying t = some (.array 3 e)) (hC : P.cellsOf t = 3) (h : Value.okWide P w r base t v) : ∃ s0 s1 s2, v = .agg #[s0, s1, s2] := by
  simp only [Value.okWide, ht] at h
  obtain ⟨cs, h1, h2, _⟩ := h
  rw [hC] at h2
  obtain ⟨l⟩ := cs
  match l, h2 with
  | [s0, s1, s2], _ => exact ⟨s0, s1, s2, h1⟩
theorem open_arr3 (hv : Value.okWide Tryd.prog W r b0 39 v) (h : DataW.Trod enc Tryd.prog W base spare held 39 v d p) : ∃ x : T3, v = t3v x ∧ T3ok x := by
  obtain ⟨s0, s1, s2, rfl⟩ := okWide_three Tryd.underlying39 cells_t3 hv
  obtain ⟨fuel, hf⟩ := h
  obtain ⟨xs, m, _, hl, _, hx, hel⟩ := DataW.trod_array Tryd.underlying39 hf
  have e0 := hel 0 (by decide)
  have e1 := hel 1 (by decide)
  have e2 := hel 2 (by decide)
  rw [cells_i] at e0 e1 e2
  simp [Value.cells] at e0 e1 e2
  obtain ⟨y0, j0⟩ : ∃ y, DataW.trod enc Tryd.prog W base spare held m 3 [s0] = some y := ⟨_, e0.trans (List.getElem?_eq_getElem (by omega))⟩
  obtain ⟨y1, j1⟩ : ∃ y, DataW.trod enc Tryd.prog W base spare held m 3 [s1] = some y := ⟨_, e1.trans (List.getElem?_eq_getElem (by omega))⟩
  obtain ⟨y2, j2⟩ : ∃ y, DataW.trod enc Tryd.prog W base spare held m 3 [s2] = some y := ⟨_, e2.trans (List.getElem?_eq_getElem (by omega))⟩
  obtain ⟨z0, e0, _, k0⟩ := DataW.trod_int Tryd.underlying3 j0
  obtain ⟨z1, e1, _, k1⟩ := DataW.trod_int Tryd.underlying3 j1
  obtain ⟨z2, e2, _, k2⟩ := DataW.trod_int Tryd.underlying3 j2
  simp only [List.cons.injEq, and_true] at e0 e1 e2
  subst e0; subst e1; subst e2
  have := bounds_i64 k0
  have := bounds_i64 k1
  have := bounds_i64 k2
  exact ⟨⟨z0, z1, z2⟩, rfl, by unfold T3ok I64; simp only; omega⟩
end
theorem tab_data : (Rows.laid_math_bits_deBruijn32tab : DataW Unit) = Lib.tabData .u8 (Lib.deBruijn32tab.map fun (n : Nat) => (n : Int)) := rfl
theorem tab_of_laid {W : World} (h : laidMetH Tryd.prog [("math/bits.deBruijn32tab", Rows.laid_math_bits_deBruijn32tab)] W) : Tab W := by
  rw [MakeChecks.laidMetH_plain _ _ _ (by kernel_rfl), tab_data] at h
  have hg : Tryd.prog.globalNamed "math/bits.deBruijn32tab" = some 0 := by kernel_rfl
  have ht := Lib.tabIs_of_head (t := 58) (e := 5) (n := 32) hg (by kernel_rfl) Tryd.underlying58 Tryd.underlying5 (by kernel_rfl) (by kernel_rfl) h
  unfold Tab
  rw [ht.cell hg 1 (by decide)]
  rfl
end Go.Proofs.YtcdldgmgmbopdaaDoor
