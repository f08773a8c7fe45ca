/- Classes in memory, and as a law's arguments (layer 13). -/
import Derived.Test.YtgkplcipplpobaaRowT
namespace Go.Proofs.Ytgkplcipplpobaa
open Go.RowKit Go.ChangeShapes Go.WideShapes
open Whn (Gr Wh)

structure Cl where
  n : List UInt8
  s : Int
  g : Nat
  p : List Int
  t : List Tm
  l : List Pl
  o : Int
/-- where a class's three rows lie, and their room -/
structure Cw where
  a : Option Addr
  ac : Nat
  b : Option Addr
  bc : Nat
  c : Option Addr
  cc : Nat
abbrev cv (x : Cl) (r : Cw) : Value := .agg #[txt x.n, .int .i64 x.s, .int .u16 (x.g : Int), .slice r.a x.p.length r.ac, .slice r.b x.t.length r.bc, .slice r.c x.l.length r.cc, .int .i64 x.o]
abbrev ccl (x : Cl) (r : Cw) : List Value := [txt x.n, .int .i64 x.s, .int .u16 (x.g : Int), .slice r.a x.p.length r.ac, .slice r.b x.t.length r.bc, .slice r.c x.l.length r.cc, .int .i64 x.o]
def Cok (x : Cl) : Prop := x.n.length ≤ maxLen ∧ I64 x.s ∧ x.g < 65536 ∧ (∀ i ∈ x.p, I64 i) ∧ (∀ y ∈ x.t, Tok y) ∧ (∀ y ∈ x.l, PlOk y) ∧ I64 x.o
/-- the rows lie where they may -/
def Clw (w : World) (B : Nat) (x : Cl) (r : Cw) : Prop := Its w B r.a x.p ∧ Es enT w B r.b x.t ∧ Es enP w B r.c x.l
theorem Clw.next {w w' : World} {x : Cl} {r : Cw} (h : Clw w w.heap.size x r) (hb : Below w.heap.size w w') : Clw w' w'.heap.size x r :=
  ⟨(h.1.below hb (Nat.le_refl _)).more hb.size, (h.2.1.below hb (Nat.le_refl _)).more hb.size, (h.2.2.below hb (Nat.le_refl _)).more hb.size⟩
def Clc (x : Cl) (r : Cw) : Prop := (x.p.length ≤ r.ac ∧ r.ac ≤ maxLen) ∧ (x.t.length ≤ r.bc ∧ r.bc ≤ maxLen) ∧ (x.l.length ≤ r.cc ∧ r.cc ≤ maxLen)
theorem Mem.cl {w X : World} {l : Obs} (h : Mem w X l) {B : Nat} {x : Cl} {r : Cw} {t : TypeId} (hm : (B, ccl x r, t) ∈ l) :
    X.cell? ⟨B, 0, none⟩ = some (txt x.n) ∧ X.cell? ⟨B, 1, none⟩ = some (.int .i64 x.s) ∧ X.cell? ⟨B, 2, none⟩ = some (.int .u16 (x.g : Int)) ∧ X.cell? ⟨B, 3, none⟩ = some (.slice r.a x.p.length r.ac) ∧ X.cell? ⟨B, 4, none⟩ = some (.slice r.b x.t.length r.bc) ∧ X.cell? ⟨B, 5, none⟩ = some (.slice r.c x.l.length r.cc) ∧ X.cell? ⟨B, 6, none⟩ = some (.int .i64 x.o) :=
  ⟨h.cell hm rfl, h.cell hm rfl, h.cell hm rfl, h.cell hm rfl, h.cell hm rfl, h.cell hm rfl, h.cell hm rfl⟩
structure ClA where
  x : Cl
  r : Cw
abbrev cvA (x : ClA) : Value := cv x.x x.r
def ClIn (w : World) (x : ClA) : Prop := Cok x.x ∧ Clw w w.heap.size x.x x.r ∧ Clc x.x x.r
section
variable {H : Type} {enc : TypeId × Value → H} {W : World} {base : Nat} {spare : Nat → Bool} {held : Bool} {r : Reach} {b0 : Nat} {v : Value} {d : DataW H} {p : List MemPlace}
set_option maxRecDepth 20000 in
theorem open_classA (hv : Value.okWide Try.prog W r b0 63 v) (h : DataW.Trod enc Try.prog W base spare held 63 v d p) : ∃ x : ClA, v = cvA x ∧ ClIn W x := by
  obtain ⟨cs, rfl, hsz, n, hf⟩ := open_aggN Try.underlying63 (by kernel_rfl) (by kernel_rfl) hv h
  obtain ⟨v0, y0, g0, h0⟩ := hf 0 _ rfl
  obtain ⟨v1, y1, g1, h1⟩ := hf 1 _ rfl
  obtain ⟨v2, y2, g2, h2⟩ := hf 2 _ rfl
  obtain ⟨v3, y3, g3, h3⟩ := hf 3 _ rfl
  obtain ⟨v4, y4, g4, h4⟩ := hf 4 _ rfl
  obtain ⟨v5, y5, g5, h5⟩ := hf 5 _ rfl
  obtain ⟨v6, y6, g6, h6⟩ := hf 6 _ rfl
  obtain ⟨s0, e0, _, k0⟩ := DataW.trod_string Try.underlying9 h0
  obtain ⟨z1, e1, _, k1⟩ := DataW.trod_int Try.underlying3 h1
  obtain ⟨z2, e2, _, k2⟩ := DataW.trod_int Try.underlying59 h2
  obtain ⟨A3, c3, l3, e3, w3, q3, m3, ok3⟩ := open_its1 Try.underlying29 Try.underlying3 (by kernel_rfl) h3
  obtain ⟨A4, c4, l4, e4, w4, q4, m4, ok4⟩ := open_es enT_len (by decide) (ok := Tok) ⟨⟨0, 0, 0, 0⟩, 0⟩ Try.underlying60 (by kernel_rfl)
    (el_time Try.underlying121 rfl (by kernel_rfl) rfl (by kernel_rfl) (el_when Try.underlying119 (by kernel_rfl) Try.underlying86 Try.underlying5 Try.underlying3 Try.underlying3) Try.underlying3) h4
  obtain ⟨A5, c5, l5, e5, w5, q5, m5, ok5⟩ := open_es enP_len (by decide) (ok := PlOk) ⟨0, 0⟩ Try.underlying61 (by kernel_rfl)
    (el_place Try.underlying123 (by kernel_rfl) Try.underlying3 Try.underlying3) h5
  obtain ⟨z6, e6, _, k6⟩ := DataW.trod_int Try.underlying3 h6
  simp only [List.cons.injEq, and_true] at e0 e1 e2 e3 e4 e5 e6
  subst e0; subst e1; subst e2; subst e3; subst e4; subst e5; subst e6
  have b1 := bounds_i64 k1
  have b2 := bounds_u16 k2
  have b6 := bounds_i64 k6
  obtain ⟨n2, rfl⟩ := Int.eq_ofNat_of_zero_le b2.1
  refine ⟨⟨⟨s0.data.toList, z1, n2, l3, l4, l5, z6⟩, ⟨A3, c3, A4, c4, A5, c5⟩⟩, ?_, ⟨by rw [data_len]; exact k0, by show I64 z1; unfold I64; omega, by show n2 < 65536; omega, ok3, ok4, ok5, by show I64 z6; unfold I64; omega⟩, ⟨w3, w4, w5⟩, ⟨q3, m3⟩, ⟨q4, m4⟩, ⟨q5, m5⟩⟩
  have hs7 : cs.size = 7 := hsz
  show Value.agg cs = .agg #[txt s0.data.toList, _, _, _, _, _, _]
  have ht : txt s0.data.toList = .string s0 := by unfold txt; rw [of_bs]
  rw [ht]
  congr 1
  refine Array.ext (by rw [hs7]; rfl) fun i h1 h2 => ?_
  rw [hs7] at h1
  have key : cs[i]? = #[Value.string s0, .int .i64 z1, .int .u16 (n2 : Int), .slice A3 l3.length c3, .slice A4 l4.length c4, .slice A5 l5.length c5, .int .i64 z6][i]? := by
    match i, h1 with
    | 0, _ => exact g0
    | 1, _ => exact g1
    | 2, _ => exact g2
    | 3, _ => exact g3
    | 4, _ => exact g4
    | 5, _ => exact g5
    | 6, _ => exact g6
  rw [Array.getElem?_eq_getElem (by rw [hs7]; exact h1), Array.getElem?_eq_getElem h2] at key
  exact Option.some.inj key
end
end Go.Proofs.Ytgkplcipplpobaa
