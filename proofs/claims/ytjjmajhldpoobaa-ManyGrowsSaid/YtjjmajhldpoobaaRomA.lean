/- Rows of times, rooms, and rows of rows of numbers, as they come in and lie in memory (layer 11). No program's function is spoken of here. -/
import Derived.Test.YtjjmajhldpoobaaWh1
import Derived.Deep.Slices
import Derived.Deep.Fields
import Derived.ChangeSlices
import Derived.Lib.SmallJoins
namespace Go.Proofs.Ytjjmajhldpoobaa
open Go.RowKit
open Go.ChangeShapes Go.WideShapes
open Whn (Gr Wh)

/-! ### a row of times -/
def wcells (l : List Wh) : List Value := l.flatMap wc
theorem wcells_cons (x : Wh) (r : List Wh) : wcells (x :: r) = .int .u32 (x.w : Int) :: .int .u8 (x.d : Int) :: .int .i64 x.s :: .int .i64 x.l :: wcells r := rfl
theorem wcells_append (a b : List Wh) : wcells (a ++ b) = wcells a ++ wcells b := by unfold wcells; rw [List.flatMap_append]
theorem wcells_len (l : List Wh) : (wcells l).length = l.length * 4 := by
  induction l with
  | nil => rfl
  | cons x r ih => rw [wcells_cons, List.length_cons, List.length_cons, List.length_cons, List.length_cons, ih, List.length_cons]; omega
theorem wcells_get (l : List Wh) (k : Nat) (x : Wh) (h : l[k]? = some x) : (wcells l)[k * 4]? = some (.int .u32 (x.w : Int)) ∧ (wcells l)[k * 4 + 1]? = some (.int .u8 (x.d : Int)) ∧ (wcells l)[k * 4 + 2]? = some (.int .i64 x.s) ∧ (wcells l)[k * 4 + 3]? = some (.int .i64 x.l) := by
  induction l generalizing k with
  | nil => cases h
  | cons y r ih =>
    cases k with
    | zero =>
      injection h with h
      subst h
      exact ⟨rfl, rfl, rfl, rfl⟩
    | succ k =>
      obtain ⟨h0, h1, h2, h3⟩ := ih k h
      rw [wcells_cons, show (k + 1) * 4 = k * 4 + 1 + 1 + 1 + 1 by omega]
      refine ⟨h0, ?_, ?_, ?_⟩
      · rw [show k * 4 + 1 + 1 + 1 + 1 + 1 = k * 4 + 1 + 1 + 1 + 1 + 1 by rfl]; exact h1
      · exact h2
      · exact h3
abbrev Whs (w : World) (B : Nat) (A : Option Addr) (l : List Wh) : Prop := Rd w B A (wcells l)
theorem wcells_ne {l : List Wh} (h : l ≠ []) : wcells l ≠ [] := by
  cases l with
  | nil => exact absurd rfl h
  | cons p r => rw [wcells_cons]; simp
/-- the time at a place of a row -/
theorem Whs.get {w : World} {B : Nat} {A : Option Addr} {l : List Wh} (h : Whs w B A l) {k : Nat} (hk : k < l.length) : ∃ ad x, A = some ad ∧ ad.block < B ∧ Hid (l[k]? = some x) ∧ w.cell? (ad.add (k * 4)) = some (.int .u32 (x.w : Int)) ∧ w.cell? (ad.add (k * 4 + 1)) = some (.int .u8 (x.d : Int)) ∧ w.cell? (ad.add (k * 4 + 2)) = some (.int .i64 x.s) ∧ w.cell? (ad.add (k * 4 + 3)) = some (.int .i64 x.l) := by
  obtain ⟨ad, e, hb, hc⟩ := h (wcells_ne (by intro e; subst e; simp at hk))
  obtain ⟨h0, h1, h2, h3⟩ := wcells_get l k l[k] (List.getElem?_eq_getElem hk)
  exact ⟨ad, l[k], e, hb, List.getElem?_eq_getElem hk, hc _ _ h0, hc _ _ h1, hc _ _ h2, hc _ _ h3⟩
theorem add_off (a : Addr) (n : Nat) : (a.add n).off = a.off + n := by
  unfold Addr.add
  split
  · rename_i h; subst h; rfl
  · rfl
theorem add_add (a : Addr) (n j : Nat) (hj : 0 < j) : a.add (n + j) = ⟨(a.add n).block, (a.add n).off + j, none⟩ := by
  rw [add_block, add_off]
  unfold Addr.add
  rw [if_neg (by omega), Nat.add_assoc]
/-- the cells of the time at a place, as a load asks for them -/
theorem whs_at {w : World} {B : Nat} {ad : Addr} {l : List Wh} (h : Whs w B (some ad) l) {k : Nat} {x : Wh} (hx : l[k]? = some x) : w.cell? (ad.add (k * 4)) = some (.int .u32 (x.w : Int)) ∧ w.cell? ⟨(ad.add (k * 4)).block, (ad.add (k * 4)).off + 1, none⟩ = some (.int .u8 (x.d : Int)) ∧ w.cell? ⟨(ad.add (k * 4)).block, (ad.add (k * 4)).off + 2, none⟩ = some (.int .i64 x.s) ∧ w.cell? ⟨(ad.add (k * 4)).block, (ad.add (k * 4)).off + 3, none⟩ = some (.int .i64 x.l) := by
  obtain ⟨ad', x', e1, _, e2, h1, h2, h3, h4⟩ := Whs.get h (List.getElem?_eq_some_iff.1 hx).1
  injection e1 with e1
  subst e1
  have e3 := e2.out
  rw [hx] at e3
  injection e3 with e3
  subst e3
  rw [add_add _ _ _ (by omega)] at h2 h3 h4
  exact ⟨h1, h2, h3, h4⟩
theorem whs_ad {w : World} {B : Nat} {A : Option Addr} {l : List Wh} (h : Whs w B A l) {k : Nat} (hk : k < l.length) : ∃ ad x, A = some ad ∧ ad.block < B ∧ Hid (l[k]? = some x) ∧ x ∈ l := by
  obtain ⟨ad, x, e, hb, hx, _⟩ := Whs.get h hk
  exact ⟨ad, x, e, hb, hx, List.mem_of_getElem? hx.out⟩
theorem wcells_read {w : World} {a : Addr} {l : List Wh} (h : ∀ i x, l[i]? = some x → w.cell? (a.add (i * 4)) = some (.int .u32 (x.w : Int)) ∧ w.cell? (a.add (i * 4 + 1)) = some (.int .u8 (x.d : Int)) ∧ w.cell? (a.add (i * 4 + 2)) = some (.int .i64 x.s) ∧ w.cell? (a.add (i * 4 + 3)) = some (.int .i64 x.l)) :
    ∀ k v, (wcells l)[k]? = some v → w.cell? (a.add k) = some v := by
  intro k v hk
  have hlt : k < l.length * 4 := by rw [← wcells_len]; exact (List.getElem?_eq_some_iff.1 hk).1
  have hi : k / 4 < l.length := by omega
  have ho := List.getElem?_eq_getElem hi
  obtain ⟨g0, g1, g2, g3⟩ := wcells_get l (k / 4) _ ho
  obtain ⟨h0, h1, h2, h3⟩ := h (k / 4) _ ho
  have hc : k % 4 = 0 ∨ k % 4 = 1 ∨ k % 4 = 2 ∨ k % 4 = 3 := by omega
  rcases hc with e | e | e | e
  · have e2 : k / 4 * 4 = k := by omega
    rw [e2] at g0 h0
    rw [h0, ← g0, hk]
  · have e2 : k / 4 * 4 + 1 = k := by omega
    rw [e2] at g1 h1
    rw [h1, ← g1, hk]
  · have e2 : k / 4 * 4 + 2 = k := by omega
    rw [e2] at g2 h2
    rw [h2, ← g2, hk]
  · have e2 : k / 4 * 4 + 3 = k := by omega
    rw [e2] at g3 h3
    rw [h3, ← g3, hk]
theorem field_one {H : Type} {enc : TypeId × Value → H} {P : Program} {w : World} {base : Nat} {sp : Nat → Bool} {held : Bool} {n : Nat} {f : Field} {cs : List Value} {j : Nat} {y : Option (DataW H × List MemPlace)} (ho : f.offset = j) (hk : P.cellsOf f.type = 1) (hj : j < cs.length)
    (h : DataW.trod enc P w base sp held n f.type ((cs.drop f.offset).take (P.cellsOf f.type)) = y) : ∃ v, cs[j]? = some v ∧ DataW.trod enc P w base sp held n f.type [v] = y := by
  refine ⟨cs[j], List.getElem?_eq_getElem hj, ?_⟩
  rw [ho, hk, List.drop_eq_getElem_cons hj] at h
  exact h
/-- a row of times that came in -/
theorem open_whs {H : Type} {enc : TypeId × Value → H} {P : Program} {w : World} {base : Nat} {sp : Nat → Bool} {held : Bool} {t e : TypeId} {f0 f1 f2 f3 : Field} {fuel : Nat} {cs : List Value} {x : DataW H × List MemPlace}
    (ht : P.underlying t = some (.slice e)) (he : P.underlying e = some (.struct #[f0, f1, f2, f3])) (hone : Go.Deep.oneCellFields P #[f0, f1, f2, f3] = true) (hC : P.cellsOf e = 4)
    (h0 : P.underlying f0.type = some (.int .u32)) (h1 : P.underlying f1.type = some (.int .u8)) (h2 : P.underlying f2.type = some (.int .i64)) (h3 : P.underlying f3.type = some (.int .i64))
    (h : DataW.trod enc P w base sp held fuel t cs = some x) : ∃ A c, ∃ l : List Wh, cs = [.slice A l.length c] ∧ Whs w w.heap.size A l ∧ l.length ≤ c ∧ c ≤ maxLen ∧ ∀ y ∈ l, Wok y := by
  rcases Go.Deep.open_slice ht h with ⟨rfl, _⟩ | ⟨a, len, cap, m, n, D, Pl, rfl, _, hl, hm, hmm, hx, hi⟩
  · exact ⟨none, 0, [], rfl, Rd.none_ _ _ _, Nat.le_refl _, Nat.zero_le _, fun _ h => by cases h⟩
  · have hlm : len ≤ m := by rw [hmm]; split <;> omega
    have hex : ∀ i : Nat, ∃ o : Wh, i < len → (w.cell? (a.add (i * 4)) = some (.int .u32 (o.w : Int)) ∧ w.cell? (a.add (i * 4 + 1)) = some (.int .u8 (o.d : Int)) ∧ w.cell? (a.add (i * 4 + 2)) = some (.int .i64 o.s) ∧ w.cell? (a.add (i * 4 + 3)) = some (.int .i64 o.l)) ∧ Wok o := by
      intro i
      by_cases hil : i < len
      · obtain ⟨cs', hc, htr⟩ := hi i (by omega)
        rw [hC] at hc
        obtain ⟨_, hcl, hat⟩ := World.cells?_some hc
        obtain ⟨ys, n', _, hag, _, hyl, hf⟩ := DataW.trod_struct he htr
        obtain ⟨o0, k0⟩ := Go.Deep.hone_of hone 0 f0 rfl
        obtain ⟨o1, k1⟩ := Go.Deep.hone_of hone 1 f1 rfl
        obtain ⟨o2, k2⟩ := Go.Deep.hone_of hone 2 f2 rfl
        obtain ⟨o3, k3⟩ := Go.Deep.hone_of hone 3 f3 rfl
        have y0 : ys[0]? = some (ys[0]'(by rw [hyl]; simp)) := List.getElem?_eq_getElem _
        have y1 : ys[1]? = some (ys[1]'(by rw [hyl]; simp)) := List.getElem?_eq_getElem _
        have y2 : ys[2]? = some (ys[2]'(by rw [hyl]; simp)) := List.getElem?_eq_getElem _
        have y3 : ys[3]? = some (ys[3]'(by rw [hyl]; simp)) := List.getElem?_eq_getElem _
        obtain ⟨v0, c0, t0⟩ := field_one o0 k0 (by omega) ((hf 0 f0 rfl).trans y0)
        obtain ⟨v1, c1, t1⟩ := field_one o1 k1 (by omega) ((hf 1 f1 rfl).trans y1)
        obtain ⟨v2, c2, t2⟩ := field_one o2 k2 (by omega) ((hf 2 f2 rfl).trans y2)
        obtain ⟨v3, c3, t3⟩ := field_one o3 k3 (by omega) ((hf 3 f3 rfl).trans y3)
        obtain ⟨z0, e0, _, q0⟩ := DataW.trod_int h0 t0
        obtain ⟨z1, e1, _, q1⟩ := DataW.trod_int h1 t1
        obtain ⟨z2, e2, _, q2⟩ := DataW.trod_int h2 t2
        obtain ⟨z3, e3, _, q3⟩ := DataW.trod_int h3 t3
        simp only [List.cons.injEq, and_true] at e0 e1 e2 e3
        subst e0; subst e1; subst e2; subst e3
        have b0 := bounds_u32 q0
        have b1 := bounds_u8 q1
        have b2 := bounds_i64 q2
        have b3 := bounds_i64 q3
        obtain ⟨n0, rfl⟩ := Int.eq_ofNat_of_zero_le b0.1
        obtain ⟨n1, rfl⟩ := Int.eq_ofNat_of_zero_le b1.1
        refine ⟨⟨n0, n1, z2, z3⟩, fun _ => ⟨⟨?_, ?_, ?_, ?_⟩, by unfold Wok I64; simp only; omega⟩⟩
        · have := hat 0 (by omega)
          rw [Addr.add_add, c0] at this
          simpa using this
        · have := hat 1 (by omega)
          rw [Addr.add_add, c1] at this
          exact this
        · have := hat 2 (by omega)
          rw [Addr.add_add, c2] at this
          exact this
        · have := hat 3 (by omega)
          rw [Addr.add_add, c3] at this
          exact this
      · exact ⟨⟨0, 0, 0, 0⟩, fun h => absurd h hil⟩
    have hlen : ((List.range len).map fun i => Classical.choose (hex i)).length = len := by rw [List.length_map, List.length_range]
    refine ⟨some a, cap, (List.range len).map fun i => Classical.choose (hex i), by rw [hlen], fun hn => ?_, by rw [hlen]; exact hl, hm, fun o ho => ?_⟩
    · have hpos : 0 < len := by
        rcases Nat.eq_zero_or_pos len with h | h
        · subst h; exact absurd rfl hn
        · exact h
      refine ⟨a, rfl, ?_, wcells_read fun i o hio => ?_⟩
      · have := (Classical.choose_spec (hex 0) hpos).1.1
        have := World.block_lt_of_cell? _ _ this
        rwa [add_block] at this
      · rw [List.getElem?_map] at hio
        cases hr : (List.range len)[i]? with
        | none => rw [hr] at hio; cases hio
        | some j =>
          obtain ⟨hlt, hij⟩ := List.getElem?_eq_some_iff.1 hr
          rw [List.length_range] at hlt
          rw [List.getElem_range] at hij
          subst hij
          rw [hr] at hio
          injection hio with hio
          rw [← hio]
          exact (Classical.choose_spec (hex i) hlt).1
    · obtain ⟨i, hi, rfl⟩ := List.mem_map.1 ho
      exact (Classical.choose_spec (hex i) (List.mem_range.1 hi)).2
/-! ### a room -/
structure Rm where
  n : List UInt8
  s : Int
  g : Nat
  l : List Wh
abbrev rv (r : Rm) (A : Option Addr) (c : Nat) : Value := .agg #[txt r.n, .int .i64 r.s, .int .u16 (r.g : Int), .slice A r.l.length c]
def Rok (r : Rm) : Prop := r.n.length ≤ maxLen ∧ I64 r.s ∧ r.g < 65536 ∧ ∀ y ∈ r.l, Wok y
section
variable {H : Type} {enc : TypeId × Value → H} {W : World} {base : Nat} {spare : Nat → Bool} {held : Bool} {r : Reach} {b0 : Nat} {v : Value} {d : DataW H} {p : List MemPlace}
end
/-! ### rows of rows of numbers -/
/-- the slice value with this address reads as these rows -/
def Rows2 (w : World) (B : Nat) (A : Option Addr) (ls : List (List Int)) : Prop :=
  ls ≠ [] → ∃ ad, A = some ad ∧ ad.block < B ∧ ∀ k l, ls[k]? = some l → ∃ Ak ck, w.cell? (ad.add k) = some (.slice Ak l.length ck) ∧ Its w B Ak l ∧ l.length ≤ ck
theorem Rows2.keep {w w' : World} {B : Nat} {A : Option Addr} {ls : List (List Int)} (h : Rows2 w B A ls) (hk : ∀ p : Addr, p.block < B → w'.cell? p = w.cell? p) : Rows2 w' B A ls := fun hn => by
  obtain ⟨ad, e, hb, hc⟩ := h hn
  refine ⟨ad, e, hb, fun k l hl => ?_⟩
  obtain ⟨Ak, ck, h1, h2, h3⟩ := hc k l hl
  exact ⟨Ak, ck, (hk _ (by rw [add_block]; exact hb)).trans h1, h2.keep hk, h3⟩
theorem Rows2.below {w w' : World} {B C : Nat} {A : Option Addr} {ls : List (List Int)} (h : Rows2 w B A ls) (hb : Below C w w') (hC : B ≤ C) : Rows2 w' B A ls := h.keep fun _ hp => hb.cell (Nat.lt_of_lt_of_le hp hC)
theorem Rows2.more {w : World} {B B' : Nat} {A : Option Addr} {ls : List (List Int)} (h : Rows2 w B A ls) (hB : B ≤ B') : Rows2 w B' A ls := fun hn => by
  obtain ⟨ad, e, hb, hc⟩ := h hn
  refine ⟨ad, e, by omega, fun k l hl => ?_⟩
  obtain ⟨Ak, ck, h1, h2, h3⟩ := hc k l hl
  exact ⟨Ak, ck, h1, h2.more hB, h3⟩
theorem Rows2.at_ {w : World} {B : Nat} {A : Option Addr} {ls : List (List Int)} (h : Rows2 w B A ls) {k : Nat} (hk : k < ls.length) : ∃ ad Ak ck, A = some ad ∧ ad.block < B ∧ w.cell? (ad.add k) = some (.slice Ak ls[k].length ck) ∧ Its w B Ak ls[k] ∧ ls[k].length ≤ ck := by
  obtain ⟨ad, e, hb, hc⟩ := h (by intro e; subst e; simp at hk)
  obtain ⟨Ak, ck, h1, h2, h3⟩ := hc k _ (List.getElem?_eq_getElem hk)
  exact ⟨ad, Ak, ck, e, hb, h1, h2, h3⟩
/-- a row of numbers that came in -/
theorem open_its1 {H : Type} {enc : TypeId × Value → H} {P : Program} {w : World} {base : Nat} {sp : Nat → Bool} {held : Bool} {t e : TypeId} {fuel : Nat} {cs : List Value} {x : DataW H × List MemPlace} (ht : P.underlying t = some (.slice e)) (he : P.underlying e = some (.int .i64)) (hc : P.cellsOf e = 1)
    (h : DataW.trod enc P w base sp held fuel t cs = some x) : ∃ A c, ∃ l : List Int, cs = [.slice A l.length c] ∧ Its w w.heap.size A l ∧ l.length ≤ c ∧ c ≤ maxLen ∧ ∀ i ∈ l, I64 i := by
  rcases open_ints ht he hc h with ⟨rfl, _⟩ | ⟨a, len, cap, zs, rfl, _, hl, hm, hz, _, hcell, hwf⟩
  · exact ⟨none, 0, [], rfl, Rd.none_ _ _ _, Nat.le_refl _, Nat.zero_le _, fun i hi => by cases hi⟩
  · have hlz : len ≤ zs.length := by rw [hz]; split <;> omega
    have hlen : (zs.take len).length = len := by rw [List.length_take]; omega
    refine ⟨some a, cap, zs.take len, by rw [hlen], fun hne => ?_, by rw [hlen]; exact hl, hm, fun i hi => ?_⟩
    · have hp : 0 < zs.length := by
        rcases Nat.eq_zero_or_pos zs.length with h0 | h0
        · exact absurd (by rw [List.eq_nil_of_length_eq_zero h0, List.take_nil]; rfl) hne
        · exact h0
      refine ⟨a, rfl, ?_, fun k v hk => ?_⟩
      · have := World.block_lt_of_cell? _ _ (hcell 0 hp)
        rwa [add_block] at this
      · rw [List.getElem?_map, List.getElem?_take] at hk
        split at hk
        · cases hzk : zs[k]? with
          | none => rw [hzk] at hk; cases hk
          | some n =>
            rw [hzk] at hk
            injection hk with hk
            subst hk
            obtain ⟨hlt, _⟩ := List.getElem?_eq_some_iff.1 hzk
            rw [hcell k hlt, List.getD_eq_getElem?_getD, hzk]
            rfl
        · cases hk
    · have := bounds_i64 (hwf i (List.mem_of_mem_take hi))
      unfold I64
      omega
theorem open_rows2 {H : Type} {enc : TypeId × Value → H} {P : Program} {w : World} {base : Nat} {sp : Nat → Bool} {held : Bool} {t e i : TypeId} {fuel : Nat} {cs : List Value} {x : DataW H × List MemPlace} (ht : P.underlying t = some (.slice e)) (hce : P.cellsOf e = 1) (he : P.underlying e = some (.slice i)) (hi : P.underlying i = some (.int .i64)) (hc : P.cellsOf i = 1)
    (h : DataW.trod enc P w base sp held fuel t cs = some x) : ∃ A c, ∃ ls : List (List Int), cs = [.slice A ls.length c] ∧ Rows2 w w.heap.size A ls ∧ ls.length ≤ c ∧ c ≤ maxLen ∧ ∀ l ∈ ls, l.length ≤ maxLen ∧ ∀ i ∈ l, I64 i := by
  rcases Go.Deep.open_slice1 ht hce h with ⟨rfl, _⟩ | ⟨a, len, cap, m, n, V, D, Pl, rfl, _, hl, hm, hmm, _, hx⟩
  · exact ⟨none, 0, [], rfl, fun h => absurd rfl h, Nat.le_refl _, Nat.zero_le _, fun _ h => by cases h⟩
  · have hlm : len ≤ m := by rw [hmm]; split <;> omega
    have hex : ∀ k : Nat, ∃ l : List Int, k < len → (∃ Ak ck, w.cell? (a.add k) = some (.slice Ak l.length ck) ∧ Its w w.heap.size Ak l ∧ l.length ≤ ck) ∧ l.length ≤ maxLen ∧ ∀ i ∈ l, I64 i := by
      intro k
      by_cases hk : k < len
      · obtain ⟨h1, h2⟩ := hx k (by omega)
        obtain ⟨Ak, ck, l, e1, e2, e3, e4, e5⟩ := open_its1 he hi hc h2
        simp only [List.cons.injEq, and_true] at e1
        rw [e1] at h1
        exact ⟨l, fun _ => ⟨⟨Ak, ck, h1, e2, e3⟩, by omega, e5⟩⟩
      · exact ⟨[], fun h => absurd h hk⟩
    have hlen : ((List.range len).map fun i => Classical.choose (hex i)).length = len := by rw [List.length_map, List.length_range]
    refine ⟨some a, cap, (List.range len).map fun i => Classical.choose (hex i), by rw [hlen], fun hn => ?_, by rw [hlen]; exact hl, hm, fun l hl => ?_⟩
    · have hpos : 0 < len := by
        rcases Nat.eq_zero_or_pos len with h | h
        · subst h; exact absurd rfl hn
        · exact h
      refine ⟨a, rfl, ?_, fun k l hkl => ?_⟩
      · obtain ⟨Ak, ck, h1, _⟩ := (Classical.choose_spec (hex 0) hpos).1
        have := World.block_lt_of_cell? _ _ h1
        rwa [add_block] at this
      · rw [List.getElem?_map] at hkl
        cases hr : (List.range len)[k]? with
        | none => rw [hr] at hkl; cases hkl
        | some j =>
          obtain ⟨hlt, hij⟩ := List.getElem?_eq_some_iff.1 hr
          rw [List.length_range] at hlt
          rw [List.getElem_range] at hij
          subst hij
          rw [hr] at hkl
          injection hkl with hkl
          rw [← hkl]
          exact (Classical.choose_spec (hex k) hlt).1
    · obtain ⟨i, hi, rfl⟩ := List.mem_map.1 hl
      exact (Classical.choose_spec (hex i) (List.mem_range.1 hi)).2
end Go.Proofs.Ytjjmajhldpoobaa
