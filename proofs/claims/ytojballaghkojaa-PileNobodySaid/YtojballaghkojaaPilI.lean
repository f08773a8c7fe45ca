/- Rows of what is done (layer 7); a row beside a pile; a law's argument that is a row of what is done. -/
import Derived.Test.YtojballaghkojaaPilH
import Derived.Deep.Slices
import Derived.Deep.Fields
import Derived.ChangeSame
import Derived.ProofKit
namespace Go.Proofs.Ytojballaghkojaa
open Go.RowKit Go.Shelf
open Pil (It)
open Go.ChangeShapes Go.WideShapes

abbrev Opi := Int × Int × Int
def qcell (o : Opi) : List Value := [.int .i64 o.1, .int .i64 o.2.1, .int .i64 o.2.2]
def qcells (l : List Opi) : List Value := l.flatMap qcell
theorem qcells_cons (o : Opi) (r : List Opi) : qcells (o :: r) = .int .i64 o.1 :: .int .i64 o.2.1 :: .int .i64 o.2.2 :: qcells r := rfl
theorem qcells_get (l : List Opi) (k : Nat) (o : Opi) (h : l[k]? = some o) : (qcells l)[k * 3]? = some (.int .i64 o.1) ∧ (qcells l)[k * 3 + 1]? = some (.int .i64 o.2.1) ∧ (qcells l)[k * 3 + 2]? = some (.int .i64 o.2.2) := by
  induction l generalizing k with
  | nil => cases h
  | cons q r ih =>
    cases k with
    | zero => injection h with h; subst h; exact ⟨rfl, rfl, rfl⟩
    | succ k =>
      obtain ⟨h1, h2, h3⟩ := ih k h
      rw [qcells_cons, show (k + 1) * 3 = k * 3 + 1 + 1 + 1 by omega]
      exact ⟨h1, h2, h3⟩
/-- a row of what is done that is read -/
abbrev Opq (w : World) (B : Nat) (A : Option Addr) (l : List Opi) : Prop := Rd w B A (qcells l)
theorem qcells_ne {l : List Opi} (h : l ≠ []) : qcells l ≠ [] := by
  cases l with
  | nil => exact absurd rfl h
  | cons p r => rw [qcells_cons]; simp
theorem Opq.get {w : World} {B : Nat} {A : Option Addr} {l : List Opi} (h : Opq w B A l) {k : Nat} (hk : k < l.length) : ∃ b o kd key val, A = some ⟨b, o, none⟩ ∧ b < B ∧ Hid (l[k]? = some (kd, key, val)) ∧ w.cell? ⟨b, o + k * 3, none⟩ = some (.int .i64 kd) ∧ w.cell? ⟨b, o + k * 3 + 1, none⟩ = some (.int .i64 key) ∧ w.cell? ⟨b, o + k * 3 + 2, none⟩ = some (.int .i64 val) := by
  obtain ⟨ad, e, hb, hc⟩ := h (qcells_ne (by intro e; subst e; simp at hk))
  obtain ⟨h1, h2, h3⟩ := qcells_get l k l[k] (List.getElem?_eq_getElem hk)
  have g1 := hc _ _ h1
  have g2 := hc _ _ h2
  have g3 := hc _ _ h3
  have g0 : ∃ v, w.cell? (ad.add 0) = some v := by
    cases l with
    | nil => simp at hk
    | cons p r => exact ⟨_, hc 0 _ rfl⟩
  obtain ⟨b, o, s⟩ := ad
  have hs : s = none := by
    obtain ⟨v, g0⟩ := g0
    exact World.cell?_spot (a := ⟨b, o, s⟩) (by simpa [Addr.add] using g0)
  subst hs
  exact ⟨b, o, l[k].1, l[k].2.1, l[k].2.2, e, hb, List.getElem?_eq_getElem hk, by simpa [Addr.add_lit] using g1, by simpa [Addr.add_lit, Nat.add_assoc] using g2, by simpa [Addr.add_lit, Nat.add_assoc] using g3⟩


/-- a row of what is done that came in -/
def IsRowQ (w : World) (a : Option Addr) (len cap : Nat) (l : List Opi) : Prop := l.length = len ∧ len ≤ cap ∧ cap ≤ maxLen ∧ Opq w w.heap.size a l ∧ ∀ o ∈ l, I64 o.1 ∧ I64 o.2.1 ∧ I64 o.2.2
theorem qcells_len (l : List Opi) : (qcells l).length = l.length * 3 := by
  induction l with
  | nil => rfl
  | cons p r ih => rw [qcells_cons, List.length_cons, List.length_cons, List.length_cons, ih, List.length_cons]; omega
/-- three cells an element -/
theorem qcells_read {w : World} {a : Addr} {l : List Opi} (h : ∀ i o, l[i]? = some o → w.cell? (a.add (i * 3)) = some (.int .i64 o.1) ∧ w.cell? (a.add (i * 3 + 1)) = some (.int .i64 o.2.1) ∧ w.cell? (a.add (i * 3 + 2)) = some (.int .i64 o.2.2)) :
    ∀ k v, (qcells l)[k]? = some v → w.cell? (a.add k) = some v := by
  intro k v hk
  have hlt : k < l.length * 3 := by rw [← qcells_len]; exact (List.getElem?_eq_some_iff.1 hk).1
  have hi : k / 3 < l.length := by omega
  have ho := List.getElem?_eq_getElem hi
  obtain ⟨g0, g1, g2⟩ := qcells_get l (k / 3) _ ho
  obtain ⟨h0, h1, h2⟩ := h (k / 3) _ ho
  have hc : k % 3 = 0 ∨ k % 3 = 1 ∨ k % 3 = 2 := by omega
  rcases hc with e | e | e
  · have e2 : k / 3 * 3 = k := by omega
    rw [e2] at g0 h0
    rw [h0, ← g0, hk]
  · have e2 : k / 3 * 3 + 1 = k := by omega
    rw [e2] at g1 h1
    rw [h1, ← g1, hk]
  · have e2 : k / 3 * 3 + 2 = k := by omega
    rw [e2] at g2 h2
    rw [h2, ← g2, hk]
/-- a field of one cell, read by itself -/
theorem field_one {H : Type} {enc : TypeId × Value → H} {P : Program} {w : World} {base : Nat} {sp : Nat → Bool} {held : Bool} {n : Nat} {f : Field} {cs : List Value} {j : Nat} {y : Option (DataW H × List MemPlace)} (ho : f.offset = j) (hk : P.cellsOf f.type = 1) (hj : j < cs.length)
    (h : DataW.trod enc P w base sp held n f.type ((cs.drop f.offset).take (P.cellsOf f.type)) = y) : ∃ v, cs[j]? = some v ∧ DataW.trod enc P w base sp held n f.type [v] = y := by
  refine ⟨cs[j], List.getElem?_eq_getElem hj, ?_⟩
  rw [ho, hk, List.drop_eq_getElem_cons hj] at h
  exact h
theorem open_opq {H : Type} {enc : TypeId × Value → H} {P : Program} {w : World} {base : Nat} {sp : Nat → Bool} {held : Bool} {t e : TypeId} {f0 f1 f2 : Field} {fuel : Nat} {a0 : Option Addr} {len cap : Nat} {x : DataW H × List MemPlace}
    (ht : P.underlying t = some (.slice e)) (he : P.underlying e = some (.struct #[f0, f1, f2])) (hone : Go.Deep.oneCellFields P #[f0, f1, f2] = true) (hC : P.cellsOf e = 3)
    (h0 : P.underlying f0.type = some (.int .i64)) (h1 : P.underlying f1.type = some (.int .i64)) (h2 : P.underlying f2.type = some (.int .i64))
    (h : DataW.trod enc P w base sp held fuel t [.slice a0 len cap] = some x) : ∃ l, IsRowQ w a0 len cap l := by
  rcases Go.Deep.open_slice ht h with ⟨hcs, _⟩ | ⟨a, len', cap', m, n, D, Pl, hcs, _, hl, hm, hmm, _, hi⟩
  · simp at hcs
    obtain ⟨rfl, rfl, rfl⟩ := hcs
    exact ⟨[], rfl, Nat.le_refl _, Nat.zero_le _, Rd.none_ _ _ _, fun _ h => by cases h⟩
  · simp at hcs
    obtain ⟨rfl, rfl, rfl⟩ := hcs
    have hlm : len ≤ m := by rw [hmm]; split <;> omega
    have hex : ∀ i : Nat, ∃ o : Opi, i < len → (w.cell? (a.add (i * 3)) = some (.int .i64 o.1) ∧ w.cell? (a.add (i * 3 + 1)) = some (.int .i64 o.2.1) ∧ w.cell? (a.add (i * 3 + 2)) = some (.int .i64 o.2.2)) ∧ (I64 o.1 ∧ I64 o.2.1 ∧ I64 o.2.2) := by
      intro i
      by_cases hil : i < len
      · obtain ⟨cs', hc, htr⟩ := hi i (by omega)
        rw [hC] at hc
        obtain ⟨_, hcl, hat⟩ := World.cells?_some hc
        obtain ⟨ys, n', _, _, _, hyl, hf⟩ := DataW.trod_struct he htr
        obtain ⟨o0, k0⟩ := Go.Deep.hone_of hone 0 f0 rfl
        obtain ⟨o1, k1⟩ := Go.Deep.hone_of hone 1 f1 rfl
        obtain ⟨o2, k2⟩ := Go.Deep.hone_of hone 2 f2 rfl
        have y0 : ys[0]? = some (ys[0]'(by rw [hyl]; simp)) := List.getElem?_eq_getElem _
        have y1 : ys[1]? = some (ys[1]'(by rw [hyl]; simp)) := List.getElem?_eq_getElem _
        have y2 : ys[2]? = some (ys[2]'(by rw [hyl]; simp)) := List.getElem?_eq_getElem _
        obtain ⟨v0, c0, t0⟩ := field_one o0 k0 (by omega) ((hf 0 f0 rfl).trans y0)
        obtain ⟨v1, c1, t1⟩ := field_one o1 k1 (by omega) ((hf 1 f1 rfl).trans y1)
        obtain ⟨v2, c2, t2⟩ := field_one o2 k2 (by omega) ((hf 2 f2 rfl).trans y2)
        obtain ⟨z, e0, _, hz0⟩ := DataW.trod_int h0 t0
        obtain ⟨z1, e1, _, hz1⟩ := DataW.trod_int h1 t1
        obtain ⟨z2, e2, _, hz2⟩ := DataW.trod_int h2 t2
        simp only [List.cons.injEq, and_true] at e0 e1 e2
        subst e0; subst e1; subst e2
        refine ⟨(z, z1, z2), fun _ => ⟨⟨?_, ?_, ?_⟩, ?_, ?_, ?_⟩⟩
        · have := hat 0 (by omega)
          rw [Addr.add_add, c0] at this
          simpa using this
        · have := hat 1 (by omega)
          rw [Addr.add_add, c1] at this
          exact this
        · have := hat 2 (by omega)
          rw [Addr.add_add, c2] at this
          exact this
        · have := bounds_i64 hz0
          unfold I64
          omega
        · have := bounds_i64 hz1
          show I64 z1
          unfold I64
          omega
        · have := bounds_i64 hz2
          show I64 z2
          unfold I64
          omega
      · exact ⟨(0, 0, 0), fun h => absurd h hil⟩
    refine ⟨(List.range len).map fun i => Classical.choose (hex i), by rw [List.length_map, List.length_range], hl, hm, fun hn => ?_, fun o ho => ?_⟩
    · have hpos : 0 < len := by
        rcases Nat.eq_zero_or_pos len with h | h
        · subst h; exact absurd rfl hn
        · exact h
      refine ⟨a, rfl, ?_, qcells_read fun i o hio => ?_⟩
      · have := (Classical.choose_spec (hex 0) hpos).1.1
        have := World.block_lt_of_cell? _ _ this
        rwa [add_block] at this
      · rw [List.getElem?_map] at hio
        cases hr : (List.range len)[i]? with
        | none => rw [hr] at hio; cases hio
        | some j =>
          obtain ⟨hlt, hij⟩ := List.getElem?_eq_some_iff.1 hr
          rw [List.length_range] at hlt
          rw [List.getElem_range] at hij
          subst hij
          rw [hr] at hio
          injection hio with hio
          rw [← hio]
          exact (Classical.choose_spec (hex i) hlt).1
    · obtain ⟨i, hi, rfl⟩ := List.mem_map.1 ho
      exact (Classical.choose_spec (hex i) (List.mem_range.1 hi)).2

/-! ### a pile, and beside it the document's row -/
def Two (n₀ : Nat) (w : World) (p : Nat) (A : Option Addr) (s l : List It) : Prop := ∃ F, Pl w F p s ∧ (∀ k, F k → n₀ ≤ k) ∧ Its2 w w.heap.size A l ∧ ∀ ad, A = some ad → ad.block < w.heap.size ∧ ¬ F ad.block
theorem Two.pl {n₀ : Nat} {w : World} {p : Nat} {A : Option Addr} {s l : List It} (h : Two n₀ w p A s l) : PlO n₀ w p s := by
  obtain ⟨F, h1, h2, _⟩ := h
  exact ⟨F, h1, h2⟩
theorem Two.row {n₀ : Nat} {w : World} {p : Nat} {A : Option Addr} {s l : List It} (h : Two n₀ w p A s l) : Its2 w w.heap.size A l := by
  obtain ⟨F, _, _, h3, _⟩ := h
  exact h3
theorem Two.nil {n₀ : Nat} {w : World} {p : Nat} {s : List It} (h : PlO n₀ w p s) : Two n₀ w p none s [] := by
  obtain ⟨F, h1, h2⟩ := h
  exact ⟨F, h1, h2, Rd.none_ _ _ _, fun _ h => by cases h⟩
theorem Two.below {n₀ : Nat} {w w' : World} {p : Nat} {A : Option Addr} {s l : List It} (h : Two n₀ w p A s l) (hb : Below w.heap.size w w') : Two n₀ w' p A s l := by
  obtain ⟨F, h1, h2, h3, h4⟩ := h
  exact ⟨F, h1.below hb, h2, (h3.below hb (Nat.le_refl _)).more hb.size, fun ad e => ⟨Nat.lt_of_lt_of_le (h4 ad e).1 hb.size, (h4 ad e).2⟩⟩
/-- another row in its place: a new one, or one at the same address -/
theorem Two.up {n₀ : Nat} {w w' : World} {p : Nat} {A A' : Option Addr} {s l l' : List It} (h : Two n₀ w p A s l) (hb : Below w.heap.size w w') (r : Its2 w' w'.heap.size A' l') (ha : A' = A ∨ ∀ ad, A' = some ad → w.heap.size ≤ ad.block ∧ ad.block < w'.heap.size) : Two n₀ w' p A' s l' := by
  obtain ⟨F, h1, h2, h3, h4⟩ := h
  refine ⟨F, h1.below hb, h2, r, fun ad e => ?_⟩
  rcases ha with rfl | ha
  · exact ⟨Nat.lt_of_lt_of_le (h4 ad e).1 hb.size, (h4 ad e).2⟩
  · exact ⟨(ha ad e).2, fun hf => by have := h1.lt _ hf; have := (ha ad e).1; omega⟩
theorem Two.to {n₀ : Nat} {w w' : World} {p : Nat} {A : Option Addr} {s' l : List It} {F : Nat → Prop} (h2 : ∀ k, F k → n₀ ≤ k) (h3 : Its2 w w.heap.size A l) (h4 : ∀ ad, A = some ad → ad.block < w.heap.size ∧ ¬ F ad.block) (hn : n₀ ≤ w.heap.size) (ht : PlTo F p s' w w') : Two n₀ w' p A s' l ∧ Below n₀ w w' := by
  refine ⟨?_, (ht.below h2 hn).1⟩
  obtain ⟨⟨F', t1, t2⟩, hk⟩ := ht
  exact ⟨F', t1, fun k hk => by rcases t2 k hk with h | h; exact h2 k h; omega, (Rd.kept h3 fun ad e => hk.block _ (h4 ad e).1 (h4 ad e).2).more hk.size, fun ad e => ⟨Nat.lt_of_lt_of_le (h4 ad e).1 hk.size, fun hf => by rcases t2 _ hf with h | h; exact (h4 ad e).2 h; have := (h4 ad e).1; omega⟩⟩
def TwoDid (n₀ p : Nat) (A : Option Addr) (s l : List It) (b : Bool) (w : World) (e : Ending) (w' : World) : Prop := e = .returned (.bool b) ∧ Two n₀ w' p A s l ∧ Below n₀ w w'
section
variable {n₀ : Nat} {w : World} {p : Nat} {A : Option Addr} {s l : List It} (h : Two n₀ w p A s l) (hn : n₀ ≤ w.heap.size) (hm : s.length ≤ 10000)
include h hn hm
theorem two_Push (key rank : Int) (hk : I64 key) (hr : I64 rank) : Calls Try.prog 13 #[ptr p, .int .i64 key, .int .i64 rank] w (TwoDid n₀ p A (Pil.push s (key, rank)) l (!(Pil.get s key).isSome) w) := by
  obtain ⟨F, h1, h2, h3, h4⟩ := h
  exact (p_Push h1 hm key rank hk hr).mono fun e w' ⟨he, ht⟩ => ⟨he, Two.to h2 h3 h4 hn ht⟩
theorem two_Move (key rank : Int) (hk : I64 key) (hr : I64 rank) : Calls Try.prog 15 #[ptr p, .int .i64 key, .int .i64 rank] w (TwoDid n₀ p A (Pil.move s (key, rank)) l (Pil.get s key).isSome w) := by
  obtain ⟨F, h1, h2, h3, h4⟩ := h
  exact (p_Move h1 hm key rank hk hr).mono fun e w' ⟨he, ht⟩ => ⟨he, Two.to h2 h3 h4 hn ht⟩
theorem two_Drop (key : Int) (hk : I64 key) : Calls Try.prog 16 #[ptr p, .int .i64 key] w (TwoDid n₀ p A (Pil.del s key) l (Pil.get s key).isSome w) := by
  obtain ⟨F, h1, h2, h3, h4⟩ := h
  exact (p_Drop h1 hm key hk).mono fun e w' ⟨he, ht⟩ => ⟨he, Two.to h2 h3 h4 hn ht⟩
theorem two_Pop : Calls Try.prog 21 #[ptr p] w fun e w' => e = .returned (topV s) ∧ Two n₀ w' p A s.tail l ∧ Below n₀ w w' := by
  obtain ⟨F, h1, h2, h3, h4⟩ := h
  exact (p_Pop h1 hm).mono fun e w' ⟨he, ht⟩ => ⟨he, Two.to h2 h3 h4 hn ht⟩
end
theorem two_Peek {n₀ : Nat} {w : World} {p : Nat} {A : Option Addr} {s l : List It} (h : Two n₀ w p A s l) (hm : s.length ≤ 10000) : Calls Try.prog 22 #[ptr p] w fun e w' => e = .returned (topV s) ∧ Below w.heap.size w w' := by
  obtain ⟨F, h1, _⟩ := h
  exact p_Peek h1 hm
end Go.Proofs.Ytojballaghkojaa
