/- The elements of rows of times with a cost, and of places, as they come in (layer 13). No program's function is spoken of here. -/
import Derived.Test.YtnhniajfnmdnnaaDoorRowE
import Derived.Test.YtnhniajfnmdnnaaDoorRomA
namespace Go.Proofs.YtnhniajfnmdnnaaDoor
open Go.RowKit Go.ChangeShapes Go.WideShapes
open Whn (Gr Wh)

section
variable {H : Type} {enc : TypeId × Value → H} {P : Program} {w : World} {base : Nat} {sp : Nat → Bool} {held : Bool}
theorem el_when {e : TypeId} {f0 f1 f2 f3 : Field} (he : P.underlying e = some (.struct #[f0, f1, f2, f3])) (hone : Go.Deep.oneCellFields P #[f0, f1, f2, f3] = true)
    (h0 : P.underlying f0.type = some (.int .u32)) (h1 : P.underlying f1.type = some (.int .u8)) (h2 : P.underlying f2.type = some (.int .i64)) (h3 : P.underlying f3.type = some (.int .i64))
    (n : Nat) (cs : List Value) (y : DataW H × List MemPlace) (hcl : cs.length = 4) (htr : DataW.trod enc P w base sp held n e cs = some y) : ∃ o : Wh, cs = wc o ∧ Wok o := by
  obtain ⟨ys, n', _, hag, _, hyl, hf⟩ := DataW.trod_struct he htr
  obtain ⟨o0, k0⟩ := Go.Deep.hone_of hone 0 f0 rfl
  obtain ⟨o1, k1⟩ := Go.Deep.hone_of hone 1 f1 rfl
  obtain ⟨o2, k2⟩ := Go.Deep.hone_of hone 2 f2 rfl
  obtain ⟨o3, k3⟩ := Go.Deep.hone_of hone 3 f3 rfl
  have y0 : ys[0]? = some (ys[0]'(by rw [hyl]; simp)) := List.getElem?_eq_getElem _
  have y1 : ys[1]? = some (ys[1]'(by rw [hyl]; simp)) := List.getElem?_eq_getElem _
  have y2 : ys[2]? = some (ys[2]'(by rw [hyl]; simp)) := List.getElem?_eq_getElem _
  have y3 : ys[3]? = some (ys[3]'(by rw [hyl]; simp)) := List.getElem?_eq_getElem _
  obtain ⟨v0, c0, t0⟩ := field_one o0 k0 (by omega) ((hf 0 f0 rfl).trans y0)
  obtain ⟨v1, c1, t1⟩ := field_one o1 k1 (by omega) ((hf 1 f1 rfl).trans y1)
  obtain ⟨v2, c2, t2⟩ := field_one o2 k2 (by omega) ((hf 2 f2 rfl).trans y2)
  obtain ⟨v3, c3, t3⟩ := field_one o3 k3 (by omega) ((hf 3 f3 rfl).trans y3)
  obtain ⟨z0, e0, _, q0⟩ := DataW.trod_int h0 t0
  obtain ⟨z1, e1, _, q1⟩ := DataW.trod_int h1 t1
  obtain ⟨z2, e2, _, q2⟩ := DataW.trod_int h2 t2
  obtain ⟨z3, e3, _, q3⟩ := DataW.trod_int h3 t3
  simp only [List.cons.injEq, and_true] at e0 e1 e2 e3
  subst e0; subst e1; subst e2; subst e3
  have b0 := bounds_u32 q0
  have b1 := bounds_u8 q1
  have b2 := bounds_i64 q2
  have b3 := bounds_i64 q3
  obtain ⟨n0, rfl⟩ := Int.eq_ofNat_of_zero_le b0.1
  obtain ⟨n1, rfl⟩ := Int.eq_ofNat_of_zero_le b1.1
  refine ⟨⟨n0, n1, z2, z3⟩, ?_, by unfold Wok I64; simp only; omega⟩
  match cs, hcl, c0, c1, c2, c3 with
  | [u0, u1, u2, u3], _, c0, c1, c2, c3 =>
    have g0 := Option.some.inj (show some u0 = _ from c0)
    have g1 := Option.some.inj (show some u1 = _ from c1)
    have g2 := Option.some.inj (show some u2 = _ from c2)
    have g3 := Option.some.inj (show some u3 = _ from c3)
    rw [g0, g1, g2, g3]
/-- a time, and what it costs -/
structure Tm where
  w : Wh
  c : Int
abbrev enT (x : Tm) : List Value := [.int .u32 (x.w.w : Int), .int .u8 (x.w.d : Int), .int .i64 x.w.s, .int .i64 x.w.l, .int .i64 x.c]
def Tok (x : Tm) : Prop := Wok x.w ∧ I64 x.c
theorem enT_len (x : Tm) : (enT x).length = 5 := rfl
theorem el_time {e : TypeId} {f0 f1 : Field} (he : P.underlying e = some (.struct #[f0, f1])) (o0 : f0.offset = 0) (k0 : P.cellsOf f0.type = 4) (o1 : f1.offset = 4) (k1 : P.cellsOf f1.type = 1)
    (hw : ∀ (n : Nat) (cs : List Value) (y : DataW H × List MemPlace), cs.length = 4 → DataW.trod enc P w base sp held n f0.type cs = some y → ∃ o : Wh, cs = wc o ∧ Wok o)
    (h1 : P.underlying f1.type = some (.int .i64))
    (n : Nat) (cs : List Value) (y : DataW H × List MemPlace) (hcl : cs.length = 5) (htr : DataW.trod enc P w base sp held n e cs = some y) : ∃ o : Tm, cs = enT o ∧ Tok o := by
  obtain ⟨ys, n', _, hag, _, hyl, hf⟩ := DataW.trod_struct he htr
  have y0 : ys[0]? = some (ys[0]'(by rw [hyl]; simp)) := List.getElem?_eq_getElem _
  have y1 : ys[1]? = some (ys[1]'(by rw [hyl]; simp)) := List.getElem?_eq_getElem _
  have t0 := (hf 0 f0 rfl).trans y0
  rw [o0, k0] at t0
  obtain ⟨x, hx, hok⟩ := hw _ _ _ (by rw [List.drop_zero, List.length_take]; omega) t0
  obtain ⟨v1, c1, t1⟩ := field_one o1 k1 (by omega) ((hf 1 f1 rfl).trans y1)
  obtain ⟨z1, e1, _, q1⟩ := DataW.trod_int h1 t1
  simp only [List.cons.injEq, and_true] at e1
  subst e1
  have b1 := bounds_i64 q1
  refine ⟨⟨x, z1⟩, ?_, hok, by unfold I64; simp only; omega⟩
  match cs, hcl, hx, c1 with
  | [u0, u1, u2, u3, u4], _, hx, c1 =>
    have c1 : some u4 = _ := c1
    injection c1 with c1
    subst c1
    have hx : [u0, u1, u2, u3] = wc x := hx
    injection hx with g0 hx
    injection hx with g1 hx
    injection hx with g2 hx
    injection hx with g3 hx
    subst g0; subst g1; subst g2; subst g3
    rfl
/-- a place, and what it costs -/
structure Pl where
  r : Int
  c : Int
abbrev enP (x : Pl) : List Value := [.int .i64 x.r, .int .i64 x.c]
def PlOk (x : Pl) : Prop := I64 x.r ∧ I64 x.c
theorem enP_len (x : Pl) : (enP x).length = 2 := rfl
theorem el_place {e : TypeId} {f0 f1 : Field} (he : P.underlying e = some (.struct #[f0, f1])) (hone : Go.Deep.oneCellFields P #[f0, f1] = true)
    (h0 : P.underlying f0.type = some (.int .i64)) (h1 : P.underlying f1.type = some (.int .i64))
    (n : Nat) (cs : List Value) (y : DataW H × List MemPlace) (hcl : cs.length = 2) (htr : DataW.trod enc P w base sp held n e cs = some y) : ∃ o : Pl, cs = enP o ∧ PlOk o := by
  obtain ⟨ys, n', _, hag, _, hyl, hf⟩ := DataW.trod_struct he htr
  obtain ⟨o0, k0⟩ := Go.Deep.hone_of hone 0 f0 rfl
  obtain ⟨o1, k1⟩ := Go.Deep.hone_of hone 1 f1 rfl
  have y0 : ys[0]? = some (ys[0]'(by rw [hyl]; simp)) := List.getElem?_eq_getElem _
  have y1 : ys[1]? = some (ys[1]'(by rw [hyl]; simp)) := List.getElem?_eq_getElem _
  obtain ⟨v0, c0, t0⟩ := field_one o0 k0 (by omega) ((hf 0 f0 rfl).trans y0)
  obtain ⟨v1, c1, t1⟩ := field_one o1 k1 (by omega) ((hf 1 f1 rfl).trans y1)
  obtain ⟨z0, e0, _, q0⟩ := DataW.trod_int h0 t0
  obtain ⟨z1, e1, _, q1⟩ := DataW.trod_int h1 t1
  simp only [List.cons.injEq, and_true] at e0 e1
  subst e0; subst e1
  have b0 := bounds_i64 q0
  have b1 := bounds_i64 q1
  refine ⟨⟨z0, z1⟩, ?_, by unfold I64; simp only; omega, by unfold I64; simp only; omega⟩
  match cs, hcl, c0, c1 with
  | [u0, u1], _, c0, c1 =>
    have g0 := Option.some.inj (show some u0 = _ from c0)
    have g1 := Option.some.inj (show some u1 = _ from c1)
    rw [g0, g1]
/-- a struct of one-cell fields, however many -/
theorem open_aggN {r : Reach} {b0 : Nat} {t : TypeId} {fs : Array Field} {v : Value} {d : DataW H} {p : List MemPlace} (hs : P.underlying t = some (.struct fs)) (hone : Go.Deep.oneCellFields P fs = true) (hC : P.cellsOf t = fs.size)
    (hv : Value.okWide P w r b0 t v) (h : DataW.Trod enc P w base sp held t v d p) :
    ∃ cs : Array Value, v = .agg cs ∧ cs.size = fs.size ∧ ∃ n, ∀ (i : Nat) (f : Field), fs[i]? = some f → ∃ vi y, cs[i]? = some vi ∧ DataW.trod enc P w base sp held n f.type [vi] = some y := by
  obtain ⟨cs, rfl, hsz⟩ := okWide_struct hs hv
  obtain ⟨fuel, hf⟩ := h
  have hf' : DataW.trod enc P w base sp held fuel t cs.toList = some (d, p) := by simpa [Value.cells] using hf
  obtain ⟨ys, n', _, hag, _, hyl, hg⟩ := DataW.trod_struct hs hf'
  refine ⟨cs, rfl, hsz.trans hC, n', fun i f hi => ?_⟩
  have hlt : i < fs.size := (Array.getElem?_eq_some_iff.1 hi).1
  obtain ⟨o, k⟩ := Go.Deep.hone_of hone i f hi
  have yi : ys[i]? = some (ys[i]'(by rw [hyl]; simpa using hlt)) := List.getElem?_eq_getElem _
  obtain ⟨v, c, tt⟩ := field_one o k (by rw [Array.length_toList, hsz, hC]; exact hlt) ((hg i f hi).trans yi)
  exact ⟨v, _, by simpa using c, tt⟩
end
end Go.Proofs.YtnhniajfnmdnnaaDoor
