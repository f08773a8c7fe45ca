/- Courses and rows of classes in memory, and as a law's arguments (layer 14). -/
import Derived.Test.YtgkplcipplpobaaClsA
namespace Go.Proofs.Ytgkplcipplpobaa
open Go.RowKit Go.ChangeShapes Go.WideShapes
open Whn (Gr Wh)

/-- the slice value with this address reads as these rows of rows -/
def Rows3 (w : World) (B : Nat) (A : Option Addr) (ws : List (List (List Int))) : Prop :=
  ws ≠ [] → ∃ ad, A = some ad ∧ ad.block < B ∧ ∀ k ls, ws[k]? = some ls → ∃ Ak ck, w.cell? (ad.add k) = some (.slice Ak ls.length ck) ∧ Rows2 w B Ak ls ∧ ls.length ≤ ck
theorem Rows3.keep {w w' : World} {B : Nat} {A : Option Addr} {ws : List (List (List Int))} (h : Rows3 w B A ws) (hk : ∀ p : Addr, p.block < B → w'.cell? p = w.cell? p) : Rows3 w' B A ws := fun hn => by
  obtain ⟨ad, e, hb, hc⟩ := h hn
  refine ⟨ad, e, hb, fun k l hl => ?_⟩
  obtain ⟨Ak, ck, h1, h2, h3⟩ := hc k l hl
  exact ⟨Ak, ck, (hk _ (by rw [add_block]; exact hb)).trans h1, h2.keep hk, h3⟩
theorem Rows3.below {w w' : World} {B C : Nat} {A : Option Addr} {ws : List (List (List Int))} (h : Rows3 w B A ws) (hb : Below C w w') (hC : B ≤ C) : Rows3 w' B A ws := h.keep fun _ hp => hb.cell (Nat.lt_of_lt_of_le hp hC)
theorem Rows3.more {w : World} {B B' : Nat} {A : Option Addr} {ws : List (List (List Int))} (h : Rows3 w B A ws) (hB : B ≤ B') : Rows3 w B' A ws := fun hn => by
  obtain ⟨ad, e, hb, hc⟩ := h hn
  refine ⟨ad, e, by omega, fun k l hl => ?_⟩
  obtain ⟨Ak, ck, h1, h2, h3⟩ := hc k l hl
  exact ⟨Ak, ck, h1, h2.more hB, h3⟩
theorem Rows3.next {w w' : World} {A : Option Addr} {ws : List (List (List Int))} (h : Rows3 w w.heap.size A ws) (hb : Below w.heap.size w w') : Rows3 w' w'.heap.size A ws := (h.below hb (Nat.le_refl _)).more hb.size
theorem Rows2.next {w w' : World} {A : Option Addr} {ls : List (List Int)} (h : Rows2 w w.heap.size A ls) (hb : Below w.heap.size w w') : Rows2 w' w'.heap.size A ls := (h.below hb (Nat.le_refl _)).more hb.size
theorem Rows3.at_ {w : World} {B : Nat} {A : Option Addr} {ws : List (List (List Int))} (h : Rows3 w B A ws) {k : Nat} (hk : k < ws.length) : ∃ ad Ak ck ls, A = some ad ∧ ad.block < B ∧ Hid (ws[k]? = some ls) ∧ ls ∈ ws ∧ w.cell? (ad.add k) = some (.slice Ak ls.length ck) ∧ Rows2 w B Ak ls ∧ ls.length ≤ ck := by
  obtain ⟨ad, e, hb, hc⟩ := h (by intro e; subst e; simp at hk)
  obtain ⟨Ak, ck, h1, h2, h3⟩ := hc k _ (List.getElem?_eq_getElem hk)
  exact ⟨ad, Ak, ck, _, e, hb, List.getElem?_eq_getElem hk, List.getElem_mem hk, h1, h2, h3⟩
theorem Rows2.get {w : World} {B : Nat} {A : Option Addr} {ls : List (List Int)} (h : Rows2 w B A ls) {k : Nat} (hk : k < ls.length) : ∃ ad Ak ck l, A = some ad ∧ ad.block < B ∧ Hid (ls[k]? = some l) ∧ l ∈ ls ∧ w.cell? (ad.add k) = some (.slice Ak l.length ck) ∧ Its w B Ak l ∧ l.length ≤ ck := by
  obtain ⟨ad, Ak, ck, e, hb, h1, h2, h3⟩ := h.at_ hk
  exact ⟨ad, Ak, ck, _, e, hb, List.getElem?_eq_getElem hk, List.getElem_mem hk, h1, h2, h3⟩
/-- numbers within the int, rows within what memory has -/
def Lsok (ls : List (List Int)) : Prop := ls.length ≤ maxLen ∧ ∀ l ∈ ls, l.length ≤ maxLen ∧ ∀ i ∈ l, I64 i
def Wsok (ws : List (List (List Int))) : Prop := ws.length ≤ maxLen ∧ ∀ ls ∈ ws, Lsok ls
theorem open_rows3 {H : Type} {enc : TypeId × Value → H} {P : Program} {w : World} {base : Nat} {sp : Nat → Bool} {held : Bool} {t e e1 i : TypeId} {f0 : Field} {fuel : Nat} {cs : List Value} {x : DataW H × List MemPlace} (ht : P.underlying t = some (.slice e)) (hce : P.cellsOf e = 1)
    (hst : P.underlying e = some (.struct #[f0])) (ho : f0.offset = 0) (hk0 : P.cellsOf f0.type = 1) (h0 : P.underlying f0.type = some (.slice e1)) (hce1 : P.cellsOf e1 = 1) (he : P.underlying e1 = some (.slice i)) (hi : P.underlying i = some (.int .i64)) (hc : P.cellsOf i = 1)
    (h : DataW.trod enc P w base sp held fuel t cs = some x) : ∃ A c, ∃ ws : List (List (List Int)), cs = [.slice A ws.length c] ∧ Rows3 w w.heap.size A ws ∧ ws.length ≤ c ∧ c ≤ maxLen ∧ ∀ ls ∈ ws, Lsok ls := by
  rcases Go.Deep.open_slice1 ht hce h with ⟨rfl, _⟩ | ⟨a, len, cap, m, n, V, D, Pl, rfl, _, hl, hm, hmm, _, hx⟩
  · exact ⟨none, 0, [], rfl, fun h => absurd rfl h, Nat.le_refl _, Nat.zero_le _, fun _ h => by cases h⟩
  · have hlm : len ≤ m := by rw [hmm]; split <;> omega
    have hex : ∀ k : Nat, ∃ ls : List (List Int), k < len → (∃ Ak ck, w.cell? (a.add k) = some (.slice Ak ls.length ck) ∧ Rows2 w w.heap.size Ak ls ∧ ls.length ≤ ck) ∧ Lsok ls := by
      intro k
      by_cases hk : k < len
      · obtain ⟨h1, h2⟩ := hx k (by omega)
        obtain ⟨y0, n', _, _, h3⟩ := trod_struct1 hst h2
        rw [ho, hk0] at h3
        obtain ⟨Ak, ck, ls, e1', e2, e3, e4, e5⟩ := open_rows2 h0 hce1 he hi hc (show DataW.trod enc P w base sp held n' f0.type [V k] = some y0 from h3)
        simp only [List.cons.injEq, and_true] at e1'
        rw [e1'] at h1
        exact ⟨ls, fun _ => ⟨⟨Ak, ck, h1, e2, e3⟩, by omega, e5⟩⟩
      · exact ⟨[], fun h => absurd h hk⟩
    have hlen : ((List.range len).map fun i => Classical.choose (hex i)).length = len := by rw [List.length_map, List.length_range]
    refine ⟨some a, cap, (List.range len).map fun i => Classical.choose (hex i), by rw [hlen], fun hn => ?_, by rw [hlen]; exact hl, hm, fun l hl => ?_⟩
    · have hpos : 0 < len := by
        rcases Nat.eq_zero_or_pos len with h | h
        · subst h; exact absurd rfl hn
        · exact h
      refine ⟨a, rfl, ?_, fun k l hkl => ?_⟩
      · obtain ⟨Ak, ck, h1, _⟩ := (Classical.choose_spec (hex 0) hpos).1
        have := World.block_lt_of_cell? _ _ h1
        rwa [add_block] at this
      · rw [List.getElem?_map] at hkl
        cases hr : (List.range len)[k]? with
        | none => rw [hr] at hkl; cases hkl
        | some j =>
          obtain ⟨hlt, hij⟩ := List.getElem?_eq_some_iff.1 hr
          rw [List.length_range] at hlt
          rw [List.getElem_range] at hij
          subst hij
          rw [hr] at hkl
          injection hkl with hkl
          rw [← hkl]
          exact (Classical.choose_spec (hex k) hlt).1
    · obtain ⟨i, hi, rfl⟩ := List.mem_map.1 hl
      exact (Classical.choose_spec (hex i) (List.mem_range.1 hi)).2
/-! ### a course -/
structure Cs where
  n : List UInt8
  ws : List (List (List Int))
structure CsA where
  x : Cs
  a : Option Addr
  c : Nat
abbrev csv (x : Cs) (A : Option Addr) (c : Nat) : Value := .agg #[txt x.n, .slice A x.ws.length c]
abbrev csc (x : Cs) (A : Option Addr) (c : Nat) : List Value := [txt x.n, .slice A x.ws.length c]
abbrev csvA (x : CsA) : Value := csv x.x x.a x.c
def CsIn (w : World) (x : CsA) : Prop := x.x.n.length ≤ maxLen ∧ Rows3 w w.heap.size x.a x.x.ws ∧ (x.x.ws.length ≤ x.c ∧ x.c ≤ maxLen) ∧ Wsok x.x.ws
theorem Mem.cs {w X : World} {l : Obs} (h : Mem w X l) {B : Nat} {x : Cs} {A : Option Addr} {c : Nat} {t : TypeId} (hm : (B, csc x A c, t) ∈ l) : X.cell? ⟨B, 0, none⟩ = some (txt x.n) ∧ X.cell? ⟨B, 1, none⟩ = some (.slice A x.ws.length c) :=
  ⟨h.cell hm rfl, h.cell hm rfl⟩
section
variable {H : Type} {enc : TypeId × Value → H} {W : World} {base : Nat} {spare : Nat → Bool} {held : Bool} {r : Reach} {b0 : Nat} {v : Value} {d : DataW H} {p : List MemPlace}
set_option maxRecDepth 20000 in
theorem open_courseA (hv : Value.okWide Try.prog W r b0 24 v) (h : DataW.Trod enc Try.prog W base spare held 24 v d p) : ∃ x : CsA, v = csvA x ∧ CsIn W x := by
  obtain ⟨cs, rfl, hsz, n, hf⟩ := open_aggN Try.underlying24 (by kernel_rfl) (by kernel_rfl) hv h
  obtain ⟨v0, y0, g0, h0⟩ := hf 0 _ rfl
  obtain ⟨v1, y1, g1, h1⟩ := hf 1 _ rfl
  obtain ⟨s0, e0, _, k0⟩ := DataW.trod_string Try.underlying9 h0
  obtain ⟨A1, c1, l1, e1, w1, q1, m1, ok1⟩ := open_rows3 Try.underlying22 (by kernel_rfl) Try.underlying42 rfl (by kernel_rfl) Try.underlying34 (by kernel_rfl) Try.underlying29 Try.underlying3 (by kernel_rfl) h1
  simp only [List.cons.injEq, and_true] at e0 e1
  subst e0; subst e1
  refine ⟨⟨⟨s0.data.toList, l1⟩, A1, c1⟩, ?_, by rw [data_len]; exact k0, w1, ⟨q1, m1⟩, Nat.le_trans q1 m1, ok1⟩
  have hs2 : cs.size = 2 := hsz
  show Value.agg cs = .agg #[txt s0.data.toList, _]
  have ht : txt s0.data.toList = .string s0 := by unfold txt; rw [of_bs]
  rw [ht]
  congr 1
  refine Array.ext (by rw [hs2]; rfl) fun i h1 h2 => ?_
  rw [hs2] at h1
  have key : cs[i]? = #[Value.string s0, .slice A1 l1.length c1][i]? := by
    match i, h1 with
    | 0, _ => exact g0
    | 1, _ => exact g1
  rw [Array.getElem?_eq_getElem (by rw [hs2]; exact h1), Array.getElem?_eq_getElem h2] at key
  exact Option.some.inj key
end
/-! ### a row of classes -/
abbrev enC (o : ClA) : List Value := ccl o.x o.r
theorem enC_len (o : ClA) : (enC o).length = 7 := rfl
section
variable {H : Type} {enc : TypeId × Value → H} {W : World} {base : Nat} {sp : Nat → Bool} {held : Bool}
theorem el_aggN {P : Program} {e : TypeId} {fs : Array Field} (he : P.underlying e = some (.struct fs)) (hone : Go.Deep.oneCellFields P fs = true) {n : Nat} {cs : List Value} {y : DataW H × List MemPlace} (hcl : cs.length = fs.size) (htr : DataW.trod enc P W base sp held n e cs = some y) :
    ∃ n', ∀ (i : Nat) (f : Field), fs[i]? = some f → ∃ vi yi, cs[i]? = some vi ∧ DataW.trod enc P W base sp held n' f.type [vi] = some yi := by
  obtain ⟨ys, n', _, hag, _, hyl, hf⟩ := DataW.trod_struct he htr
  refine ⟨n', fun i f hi => ?_⟩
  obtain ⟨o, k⟩ := Go.Deep.hone_of hone i f hi
  have hil : i < fs.size := (Array.getElem?_eq_some_iff.1 hi).1
  have yi : ys[i]? = some (ys[i]'(by rw [hyl]; exact hil)) := List.getElem?_eq_getElem _
  obtain ⟨v, c, t⟩ := field_one o k (by rw [hcl]; exact hil) ((hf i f hi).trans yi)
  exact ⟨v, _, c, t⟩
set_option maxRecDepth 20000 in
theorem el_class (n : Nat) (cs : List Value) (y : DataW H × List MemPlace) (hcl : cs.length = 7) (htr : DataW.trod enc Try.prog W base sp held n 63 cs = some y) : ∃ o : ClA, cs = enC o ∧ ClIn W o := by
  obtain ⟨n', hf⟩ := el_aggN Try.underlying63 (by kernel_rfl) hcl htr
  obtain ⟨v0, y0, g0, h0⟩ := hf 0 _ rfl
  obtain ⟨v1, y1, g1, h1⟩ := hf 1 _ rfl
  obtain ⟨v2, y2, g2, h2⟩ := hf 2 _ rfl
  obtain ⟨v3, y3, g3, h3⟩ := hf 3 _ rfl
  obtain ⟨v4, y4, g4, h4⟩ := hf 4 _ rfl
  obtain ⟨v5, y5, g5, h5⟩ := hf 5 _ rfl
  obtain ⟨v6, y6, g6, h6⟩ := hf 6 _ rfl
  obtain ⟨s0, e0, _, k0⟩ := DataW.trod_string Try.underlying9 h0
  obtain ⟨z1, e1, _, k1⟩ := DataW.trod_int Try.underlying3 h1
  obtain ⟨z2, e2, _, k2⟩ := DataW.trod_int Try.underlying59 h2
  obtain ⟨A3, c3, l3, e3, w3, q3, m3, ok3⟩ := open_its1 Try.underlying29 Try.underlying3 (by kernel_rfl) h3
  obtain ⟨A4, c4, l4, e4, w4, q4, m4, ok4⟩ := open_es enT_len (by decide) (ok := Tok) ⟨⟨0, 0, 0, 0⟩, 0⟩ Try.underlying60 (by kernel_rfl)
    (el_time Try.underlying121 rfl (by kernel_rfl) rfl (by kernel_rfl) (el_when Try.underlying119 (by kernel_rfl) Try.underlying86 Try.underlying5 Try.underlying3 Try.underlying3) Try.underlying3) h4
  obtain ⟨A5, c5, l5, e5, w5, q5, m5, ok5⟩ := open_es enP_len (by decide) (ok := PlOk) ⟨0, 0⟩ Try.underlying61 (by kernel_rfl)
    (el_place Try.underlying123 (by kernel_rfl) Try.underlying3 Try.underlying3) h5
  obtain ⟨z6, e6, _, k6⟩ := DataW.trod_int Try.underlying3 h6
  simp only [List.cons.injEq, and_true] at e0 e1 e2 e3 e4 e5 e6
  subst e0; subst e1; subst e2; subst e3; subst e4; subst e5; subst e6
  have b1 := bounds_i64 k1
  have b2 := bounds_u16 k2
  have b6 := bounds_i64 k6
  obtain ⟨n2, rfl⟩ := Int.eq_ofNat_of_zero_le b2.1
  refine ⟨⟨⟨s0.data.toList, z1, n2, l3, l4, l5, z6⟩, ⟨A3, c3, A4, c4, A5, c5⟩⟩, ?_, ⟨by rw [data_len]; exact k0, by show I64 z1; unfold I64; omega, by show n2 < 65536; omega, ok3, ok4, ok5, by show I64 z6; unfold I64; omega⟩, ⟨w3, w4, w5⟩, ⟨q3, m3⟩, ⟨q4, m4⟩, ⟨q5, m5⟩⟩
  have ht : txt s0.data.toList = .string s0 := by unfold txt; rw [of_bs]
  show cs = [txt s0.data.toList, _, _, _, _, _, _]
  rw [ht]
  match cs, hcl, g0, g1, g2, g3, g4, g5, g6 with
  | [u0, u1, u2, u3, u4, u5, u6], _, g0, g1, g2, g3, g4, g5, g6 =>
    have g0 := Option.some.inj (show some u0 = _ from g0)
    have g1 := Option.some.inj (show some u1 = _ from g1)
    have g2 := Option.some.inj (show some u2 = _ from g2)
    have g3 := Option.some.inj (show some u3 = _ from g3)
    have g4 := Option.some.inj (show some u4 = _ from g4)
    have g5 := Option.some.inj (show some u5 = _ from g5)
    have g6 := Option.some.inj (show some u6 = _ from g6)
    rw [g0, g1, g2, g3, g4, g5, g6]
end
/-- a law's argument: a row of classes -/
def IsRowC (w : World) (a : Option Addr) (len cap : Nat) (zs : List ClA) : Prop := Es enC w w.heap.size a zs ∧ zs.length = len ∧ len ≤ cap ∧ cap ≤ maxLen ∧ ∀ y ∈ zs, ClIn w y
theorem open_cls {H : Type} {enc : TypeId × Value → H} {W : World} {base : Nat} {sp : Nat → Bool} {held : Bool} {fuel : Nat} {a : Option Addr} {len cap : Nat} {x : DataW H × List MemPlace} (h : DataW.trod enc Try.prog W base sp held fuel 32 [.slice a len cap] = some x) : ∃ zs, IsRowC W a len cap zs := by
  obtain ⟨A, c, l, e, h1, h2, h3, h4⟩ := open_es enC_len (by decide) (ok := ClIn W) ⟨⟨[], 0, 0, [], [], [], 0⟩, ⟨none, 0, none, 0, none, 0⟩⟩ Try.underlying32 (by kernel_rfl) el_class h
  simp only [List.cons.injEq, and_true, Value.slice.injEq] at e
  obtain ⟨rfl, rfl, rfl⟩ := e
  exact ⟨l, h1, rfl, h2, h3, h4⟩
end Go.Proofs.Ytgkplcipplpobaa
