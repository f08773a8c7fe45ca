/- What comes into the laws of layer 10: a grid, a time; the library's variables, out of the row's condition and the world's shape. -/
import Derived.Test.YtfnjnkmdifigdaaDoorClkY
import Derived.Test.YtfnjnkmdifigdaaDoorRows
import Derived.Lib.LaidTab
import Derived.MakeChecks
namespace Go.Proofs.YtfnjnkmdifigdaaDoor
open Go.RowKit Go.ChangeShapes Go.WideShapes
open Whn (Gr Wh)

section
variable {H : Type} {enc : TypeId × Value → H} {W : World} {base : Nat} {spare : Nat → Bool} {held : Bool} {r : Reach} {b0 : Nat} {v : Value} {d : DataW H} {p : List MemPlace}
set_option maxRecDepth 20000 in
theorem open_gr (hv : Value.okWide Tryd.prog W r b0 23 v) (h : DataW.Trod enc Tryd.prog W base spare held 23 v d p) : ∃ g : Gr, v = gv g ∧ Gok g := by
  obtain ⟨v0, v1, v2, y0, y1, y2, n, rfl, _, _, h0, h1, h2⟩ := Joins.open_agg3 Tryd.underlying23 (by kernel_rfl) (by kernel_rfl) hv h
  obtain ⟨z0, e0, _, k0⟩ := DataW.trod_int Tryd.underlying3 h0
  obtain ⟨z1, e1, _, k1⟩ := DataW.trod_int Tryd.underlying3 h1
  obtain ⟨z2, e2, _, k2⟩ := DataW.trod_int Tryd.underlying3 h2
  simp only [List.cons.injEq, and_true] at e0 e1 e2
  subst e0; subst e1; subst e2
  have := bounds_i64 k0
  have := bounds_i64 k1
  have := bounds_i64 k2
  exact ⟨⟨z0, z1, z2⟩, rfl, by unfold Gok I64; simp only; omega⟩
set_option maxRecDepth 20000 in
theorem open_wh (hv : Value.okWide Tryd.prog W r b0 26 v) (h : DataW.Trod enc Tryd.prog W base spare held 26 v d p) : ∃ x : Wh, v = wv x ∧ Wok x := by
  obtain ⟨v0, v1, v2, v3, y0, y1, y2, y3, n, rfl, _, _, h0, h1, h2, h3⟩ := Joins.open_agg4 Tryd.underlying26 (by kernel_rfl) (by kernel_rfl) hv h
  obtain ⟨z0, e0, _, k0⟩ := DataW.trod_int Tryd.underlying24 h0
  obtain ⟨z1, e1, _, k1⟩ := DataW.trod_int Tryd.underlying5 h1
  obtain ⟨z2, e2, _, k2⟩ := DataW.trod_int Tryd.underlying3 h2
  obtain ⟨z3, e3, _, k3⟩ := DataW.trod_int Tryd.underlying3 h3
  simp only [List.cons.injEq, and_true] at e0 e1 e2 e3
  subst e0; subst e1; subst e2; subst e3
  have q0 := bounds_u32 k0
  have q1 := bounds_u8 k1
  have := bounds_i64 k2
  have := bounds_i64 k3
  obtain ⟨n0, rfl⟩ := Int.eq_ofNat_of_zero_le q0.1
  obtain ⟨n1, rfl⟩ := Int.eq_ofNat_of_zero_le q1.1
  exact ⟨⟨n0, n1, z2, z3⟩, rfl, by unfold Wok I64; simp only; omega⟩
end
def whEq (x y : Wh) : Bool := decide (x.w = y.w ∧ x.d = y.d ∧ x.s = y.s ∧ x.l = y.l)
/-- '==' of two times -/
theorem wh_eql (x y : Wh) (w : World) : (binOp .eql 26 (wv x) (wv y)).run Tryd.prog w = .ok (.bool (whEq x y)) w := by
  go_simp
  have h1 : ((x.w : Int) = (y.w : Int)) = (x.w = y.w) := propext ⟨fun h => by omega, fun h => by omega⟩
  have h2 : ((x.d : Int) = (y.d : Int)) = (x.d = y.d) := propext ⟨fun h => by omega, fun h => by omega⟩
  simp only [h1, h2]
  unfold whEq
  by_cases a1 : x.w = y.w
  · by_cases a2 : x.d = y.d
    · by_cases a3 : x.s = y.s
      · by_cases a4 : x.l = y.l
        · simp [a1, a2, a3, a4]
        · simp [a1, a2, a3, a4]
      · simp [a1, a2, a3]
    · simp [a1, a2]
  · simp [a1]
theorem whEq_iff (x y : Wh) : whEq x y = true ↔ x = y := by
  unfold whEq
  rw [decide_eq_true_iff]
  constructor
  · rintro ⟨h1, h2, h3, h4⟩
    cases x; cases y
    simp only at h1 h2 h3 h4
    rw [h1, h2, h3, h4]
  · rintro rfl
    exact ⟨rfl, rfl, rfl, rfl⟩
theorem whEq_self (x : Wh) : whEq x x = true := (whEq_iff x x).2 rfl
theorem dt_mod (d : Nat) : Clk.dt d = Clk.dt (d % 128) := by
  have : ∀ k, k ≤ 7 → Clk.dtk d k = Clk.dtk (d % 128) k := by
    intro k
    induction k with
    | zero => intro _; rfl
    | succ k ih =>
      intro hk
      rw [dtk_succ, dtk_succ, ih (by omega)]
      have e : (d % 128).testBit k = d.testBit k := by
        rw [show (128 : Nat) = 2 ^ 7 from rfl, Nat.testBit_mod_two_pow, decide_eq_true (by omega), Bool.true_and]
      rw [e]
  exact this 7 (Nat.le_refl _)
theorem right_wok {g : Gr} {x : Wh} (h : Whn.right g x = true) : Wok x := by
  obtain ⟨h1, h2, h3, h4, h5, h6, h7, h8⟩ := Clk.right_nums h
  unfold Wok I64
  omega
theorem pt_len (g : Gr) (x : Wh) : (Clk.pt g x).length ≤ 300000 := by
  unfold Clk.pt
  split
  · unfold Clk.tt
    have h1 := Clk.wk_len x.w
    have h2 := Clk.dt_len x.d
    have h3 := Dig.wd_length_le x.s.toNat
    have h4 := Dig.wd_length_le x.l.toNat
    simp only [List.length_append, List.length_cons]
    omega
  · exact Nat.zero_le _
theorem tab_data : (Rows.laid_math_bits_deBruijn32tab : DataW Unit) = Lib.tabData .u8 (Lib.deBruijn32tab.map fun (n : Nat) => (n : Int)) := rfl
set_option maxRecDepth 20000 in
theorem env_of {W : World} (h : laidMetH Tryd.prog [("math/bits.deBruijn32tab", Rows.laid_math_bits_deBruijn32tab)] W) (hsh : W.ShapedOpen Tryd.prog) : Env W := by
  refine ⟨Tryd.laysM219.s1_3 W hsh, fun i hi => ?_⟩
  rw [MakeChecks.laidMetH_plain _ _ _ (by kernel_rfl), tab_data] at h
  have hg : Tryd.prog.globalNamed "math/bits.deBruijn32tab" = some 0 := by kernel_rfl
  have ht := Lib.tabIs_of_head (t := 97) (e := 5) (n := 32) hg (by kernel_rfl) Tryd.underlying97 Tryd.underlying5 (by kernel_rfl) (by kernel_rfl) h
  have hl : (Lib.deBruijn32tab.map fun (n : Nat) => (n : Int)).length = 32 := by decide
  rw [ht.cell hg i (by rw [hl]; exact hi)]
  rw [List.getD_eq_getElem?_getD, List.getD_eq_getElem?_getD, List.getElem?_map]
  cases Lib.deBruijn32tab[i]? <;> rfl
end Go.Proofs.YtfnjnkmdifigdaaDoor
