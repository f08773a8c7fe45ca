/- What the proof of ProblemCopies stands on, part 2. -/
import Derived.Deep.Slices
import Derived.Deep.Fields
import Derived.ChangeSlices
import Derived.Lib.SmallJoins
import Derived.Test.YtgmgccepmalahaaGreatCpAA
namespace Go.Proofs.YtgmgccepmalahaaGreat
open Go.RowKit
open Go.ChangeShapes Go.WideShapes
open Whn (Gr Wh)
def wcells (l : List Wh) : List Value := l.flatMap wc
theorem wcells_cons (x : Wh) (r : List Wh) : wcells (x :: r) = .int .u32 (x.w : Int) :: .int .u8 (x.d : Int) :: .int .i64 x.s :: .int .i64 x.l :: wcells r := rfl
theorem wcells_append (a b : List Wh) : wcells (a ++ b) = wcells a ++ wcells b := by unfold wcells; rw [List.flatMap_append]
theorem wcells_len (l : List Wh) : (wcells l).length = l.length * 4 := by
 induction l with
 | nil => rfl
 | cons x r ih => rw [wcells_cons, List.length_cons, List.length_cons, List.length_cons, List.length_cons, ih, List.length_cons]; omega
theorem wcells_get (l : List Wh) (k : Nat) (x : Wh) (h : l[k]? = some x) : (wcells l)[k * 4]? = some (.int .u32 (x.w : Int)) ∧ (wcells l)[k * 4 + 1]? = some (.int .u8 (x.d : Int)) ∧ (wcells l)[k * 4 + 2]? = some (.int .i64 x.s) ∧ (wcells l)[k * 4 + 3]? = some (.int .i64 x.l) := by
 induction l generalizing k with
 | nil => cases h
 | cons y r ih =>
  cases k with
  | zero =>
   injection h with h
   subst h
   exact ⟨rfl, rfl, rfl, rfl⟩
  | succ k =>
   obtain ⟨h0, h1, h2, h3⟩ := ih k h
   rw [wcells_cons, show (k + 1) * 4 = k * 4 + 1 + 1 + 1 + 1 by omega]
   refine ⟨h0, ?_, ?_, ?_⟩
   · rw [show k * 4 + 1 + 1 + 1 + 1 + 1 = k * 4 + 1 + 1 + 1 + 1 + 1 by rfl]; exact h1
   · exact h2
   · exact h3
abbrev Whs (w : World) (B : Nat) (A : Option Addr) (l : List Wh) : Prop := Rd w B A (wcells l)
theorem wcells_ne {l : List Wh} (h : l ≠ []) : wcells l ≠ [] := by
 cases l with
 | nil => exact absurd rfl h
 | cons p r => rw [wcells_cons]; simp
theorem Whs.get {w : World} {B : Nat} {A : Option Addr} {l : List Wh} (h : Whs w B A l) {k : Nat} (hk : k < l.length) : ∃ ad x, A = some ad ∧ ad.block < B ∧ Hid (l[k]? = some x) ∧ w.cell? (ad.add (k * 4)) = some (.int .u32 (x.w : Int)) ∧ w.cell? (ad.add (k * 4 + 1)) = some (.int .u8 (x.d : Int)) ∧ w.cell? (ad.add (k * 4 + 2)) = some (.int .i64 x.s) ∧ w.cell? (ad.add (k * 4 + 3)) = some (.int .i64 x.l) := by
 obtain ⟨ad, e, hb, hc⟩ := h (wcells_ne (by intro e; subst e; simp at hk))
 obtain ⟨h0, h1, h2, h3⟩ := wcells_get l k l[k] (List.getElem?_eq_getElem hk)
 exact ⟨ad, l[k], e, hb, List.getElem?_eq_getElem hk, hc _ _ h0, hc _ _ h1, hc _ _ h2, hc _ _ h3⟩
theorem add_off (a : Addr) (n : Nat) : (a.add n).off = a.off + n := by
 unfold Addr.add
 split
 · rename_i h; subst h; rfl
 · rfl
theorem add_add (a : Addr) (n j : Nat) (hj : 0 < j) : a.add (n + j) = ⟨(a.add n).block, (a.add n).off + j, none⟩ := by
 rw [add_block, add_off]
 unfold Addr.add
 rw [if_neg (by omega), Nat.add_assoc]
theorem whs_at {w : World} {B : Nat} {ad : Addr} {l : List Wh} (h : Whs w B (some ad) l) {k : Nat} {x : Wh} (hx : l[k]? = some x) : w.cell? (ad.add (k * 4)) = some (.int .u32 (x.w : Int)) ∧ w.cell? ⟨(ad.add (k * 4)).block, (ad.add (k * 4)).off + 1, none⟩ = some (.int .u8 (x.d : Int)) ∧ w.cell? ⟨(ad.add (k * 4)).block, (ad.add (k * 4)).off + 2, none⟩ = some (.int .i64 x.s) ∧ w.cell? ⟨(ad.add (k * 4)).block, (ad.add (k * 4)).off + 3, none⟩ = some (.int .i64 x.l) := by
 obtain ⟨ad', x', e1, _, e2, h1, h2, h3, h4⟩ := Whs.get h (List.getElem?_eq_some_iff.1 hx).1
 injection e1 with e1
 subst e1
 have e3 := e2.out
 rw [hx] at e3
 injection e3 with e3
 subst e3
 rw [add_add _ _ _ (by omega)] at h2 h3 h4
 exact ⟨h1, h2, h3, h4⟩
theorem whs_ad {w : World} {B : Nat} {A : Option Addr} {l : List Wh} (h : Whs w B A l) {k : Nat} (hk : k < l.length) : ∃ ad x, A = some ad ∧ ad.block < B ∧ Hid (l[k]? = some x) ∧ x ∈ l := by
 obtain ⟨ad, x, e, hb, hx, _⟩ := Whs.get h hk
 exact ⟨ad, x, e, hb, hx, List.mem_of_getElem? hx.out⟩
theorem wcells_read {w : World} {a : Addr} {l : List Wh} (h : ∀ i x, l[i]? = some x → w.cell? (a.add (i * 4)) = some (.int .u32 (x.w : Int)) ∧ w.cell? (a.add (i * 4 + 1)) = some (.int .u8 (x.d : Int)) ∧ w.cell? (a.add (i * 4 + 2)) = some (.int .i64 x.s) ∧ w.cell? (a.add (i * 4 + 3)) = some (.int .i64 x.l)) :
 ∀ k v, (wcells l)[k]? = some v → w.cell? (a.add k) = some v := by
 intro k v hk
 have hlt : k < l.length * 4 := by rw [← wcells_len]; exact (List.getElem?_eq_some_iff.1 hk).1
 have hi : k / 4 < l.length := by omega
 have ho := List.getElem?_eq_getElem hi
 obtain ⟨g0, g1, g2, g3⟩ := wcells_get l (k / 4) _ ho
 obtain ⟨h0, h1, h2, h3⟩ := h (k / 4) _ ho
 have hc : k % 4 = 0 ∨ k % 4 = 1 ∨ k % 4 = 2 ∨ k % 4 = 3 := by omega
 rcases hc with e | e | e | e
 · have e2 : k / 4 * 4 = k := by omega
   rw [e2] at g0 h0
   rw [h0, ← g0, hk]
 · have e2 : k / 4 * 4 + 1 = k := by omega
   rw [e2] at g1 h1
   rw [h1, ← g1, hk]
 · have e2 : k / 4 * 4 + 2 = k := by omega
   rw [e2] at g2 h2
   rw [h2, ← g2, hk]
 · have e2 : k / 4 * 4 + 3 = k := by omega
   rw [e2] at g3 h3
   rw [h3, ← g3, hk]
theorem field_one {H : Type} {enc : TypeId × Value → H} {P : Program} {w : World} {base : Nat} {sp : Nat → Bool} {held : Bool} {n : Nat} {f : Field} {cs : List Value} {j : Nat} {y : Option (DataW H × List MemPlace)} (ho : f.offset = j) (hk : P.cellsOf f.type = 1) (hj : j < cs.length)
 (h : DataW.trod enc P w base sp held n f.type ((cs.drop f.offset).take (P.cellsOf f.type)) = y) : ∃ v, cs[j]? = some v ∧ DataW.trod enc P w base sp held n f.type [v] = y := by
 refine ⟨cs[j], List.getElem?_eq_getElem hj, ?_⟩
 rw [ho, hk, List.drop_eq_getElem_cons hj] at h
 exact h
theorem open_whs {H : Type} {enc : TypeId × Value → H} {P : Program} {w : World} {base : Nat} {sp : Nat → Bool} {held : Bool} {t e : TypeId} {f0 f1 f2 f3 : Field} {fuel : Nat} {cs : List Value} {x : DataW H × List MemPlace}
 (ht : P.underlying t = some (.slice e)) (he : P.underlying e = some (.struct #[f0, f1, f2, f3])) (hone : Go.Deep.oneCellFields P #[f0, f1, f2, f3] = true) (hC : P.cellsOf e = 4)
 (h0 : P.underlying f0.type = some (.int .u32)) (h1 : P.underlying f1.type = some (.int .u8)) (h2 : P.underlying f2.type = some (.int .i64)) (h3 : P.underlying f3.type = some (.int .i64))
 (h : DataW.trod enc P w base sp held fuel t cs = some x) : ∃ A c, ∃ l : List Wh, cs = [.slice A l.length c] ∧ Whs w w.heap.size A l ∧ l.length ≤ c ∧ c ≤ maxLen ∧ ∀ y ∈ l, Wok y := by
 rcases Go.Deep.open_slice ht h with ⟨rfl, _⟩ | ⟨a, len, cap, m, n, D, Pl, rfl, _, hl, hm, hmm, hx, hi⟩
 · exact ⟨none, 0, [], rfl, Rd.none_ _ _ _, Nat.le_refl _, Nat.zero_le _, fun _ h => by cases h⟩
 · have hlm : len ≤ m := by rw [hmm]; split <;> omega
   have hex : ∀ i : Nat, ∃ o : Wh, i < len → (w.cell? (a.add (i * 4)) = some (.int .u32 (o.w : Int)) ∧ w.cell? (a.add (i * 4 + 1)) = some (.int .u8 (o.d : Int)) ∧ w.cell? (a.add (i * 4 + 2)) = some (.int .i64 o.s) ∧ w.cell? (a.add (i * 4 + 3)) = some (.int .i64 o.l)) ∧ Wok o := by
    intro i
    by_cases hil : i < len
    · obtain ⟨cs', hc, htr⟩ := hi i (by omega)
      rw [hC] at hc
      obtain ⟨_, hcl, hat⟩ := World.cells?_some hc
      obtain ⟨ys, n', _, hag, _, hyl, hf⟩ := DataW.trod_struct he htr
      obtain ⟨o0, k0⟩ := Go.Deep.hone_of hone 0 f0 rfl
      obtain ⟨o1, k1⟩ := Go.Deep.hone_of hone 1 f1 rfl
      obtain ⟨o2, k2⟩ := Go.Deep.hone_of hone 2 f2 rfl
      obtain ⟨o3, k3⟩ := Go.Deep.hone_of hone 3 f3 rfl
      have y0 : ys[0]? = some (ys[0]'(by rw [hyl]; simp)) := List.getElem?_eq_getElem _
      have y1 : ys[1]? = some (ys[1]'(by rw [hyl]; simp)) := List.getElem?_eq_getElem _
      have y2 : ys[2]? = some (ys[2]'(by rw [hyl]; simp)) := List.getElem?_eq_getElem _
      have y3 : ys[3]? = some (ys[3]'(by rw [hyl]; simp)) := List.getElem?_eq_getElem _
      obtain ⟨v0, c0, t0⟩ := field_one o0 k0 (by omega) ((hf 0 f0 rfl).trans y0)
      obtain ⟨v1, c1, t1⟩ := field_one o1 k1 (by omega) ((hf 1 f1 rfl).trans y1)
      obtain ⟨v2, c2, t2⟩ := field_one o2 k2 (by omega) ((hf 2 f2 rfl).trans y2)
      obtain ⟨v3, c3, t3⟩ := field_one o3 k3 (by omega) ((hf 3 f3 rfl).trans y3)
      obtain ⟨z0, e0, _, q0⟩ := DataW.trod_int h0 t0
      obtain ⟨z1, e1, _, q1⟩ := DataW.trod_int h1 t1
      obtain ⟨z2, e2, _, q2⟩ := DataW.trod_int h2 t2
      obtain ⟨z3, e3, _, q3⟩ := DataW.trod_int h3 t3
      simp only [List.cons.injEq, and_true] at e0 e1 e2 e3
      subst e0; subst e1; subst e2; subst e3
      have b0 := bounds_u32 q0
      have b1 := bounds_u8 q1
      have b2 := bounds_i64 q2
      have b3 := bounds_i64 q3
      obtain ⟨n0, rfl⟩ := Int.eq_ofNat_of_zero_le b0.1
      obtain ⟨n1, rfl⟩ := Int.eq_ofNat_of_zero_le b1.1
      refine ⟨⟨n0, n1, z2, z3⟩, fun _ => ⟨⟨?_, ?_, ?_, ?_⟩, by unfold Wok I64; simp only; omega⟩⟩
      · have := hat 0 (by omega)
        rw [Addr.add_add, c0] at this
        simpa using this
      · have := hat 1 (by omega)
        rw [Addr.add_add, c1] at this
        exact this
      · have := hat 2 (by omega)
        rw [Addr.add_add, c2] at this
        exact this
      · have := hat 3 (by omega)
        rw [Addr.add_add, c3] at this
        exact this
    · exact ⟨⟨0, 0, 0, 0⟩, fun h => absurd h hil⟩
   have hlen : ((List.range len).map fun i => Classical.choose (hex i)).length = len := by rw [List.length_map, List.length_range]
   refine ⟨some a, cap, (List.range len).map fun i => Classical.choose (hex i), by rw [hlen], fun hn => ?_, by rw [hlen]; exact hl, hm, fun o ho => ?_⟩
   · have hpos : 0 < len := by
      rcases Nat.eq_zero_or_pos len with h | h
      · subst h; exact absurd rfl hn
      · exact h
     refine ⟨a, rfl, ?_, wcells_read fun i o hio => ?_⟩
     · have := (Classical.choose_spec (hex 0) hpos).1.1
       have := World.block_lt_of_cell? _ _ this
       rwa [add_block] at this
     · rw [List.getElem?_map] at hio
       cases hr : (List.range len)[i]? with
       | none => rw [hr] at hio; cases hio
       | some j =>
        obtain ⟨hlt, hij⟩ := List.getElem?_eq_some_iff.1 hr
        rw [List.length_range] at hlt
        rw [List.getElem_range] at hij
        subst hij
        rw [hr] at hio
        injection hio with hio
        rw [← hio]
        exact (Classical.choose_spec (hex i) hlt).1
   · obtain ⟨i, hi, rfl⟩ := List.mem_map.1 ho
     exact (Classical.choose_spec (hex i) (List.mem_range.1 hi)).2
structure Rm where
 n : List UInt8
 s : Int
 g : Nat
 l : List Wh
abbrev rv (r : Rm) (A : Option Addr) (c : Nat) : Value := .agg #[txt r.n, .int .i64 r.s, .int .u16 (r.g : Int), .slice A r.l.length c]
def Rok (r : Rm) : Prop := r.n.length ≤ maxLen ∧ I64 r.s ∧ r.g < 65536 ∧ ∀ y ∈ r.l, Wok y
section
variable {H : Type} {enc : TypeId × Value → H} {W : World} {base : Nat} {spare : Nat → Bool} {held : Bool} {r : Reach} {b0 : Nat} {v : Value} {d : DataW H} {p : List MemPlace}
end
def Rows2 (w : World) (B : Nat) (A : Option Addr) (ls : List (List Int)) : Prop :=
 ls ≠ [] → ∃ ad, A = some ad ∧ ad.block < B ∧ ∀ k l, ls[k]? = some l → ∃ Ak ck, w.cell? (ad.add k) = some (.slice Ak l.length ck) ∧ Its w B Ak l ∧ l.length ≤ ck
theorem Rows2.keep {w w' : World} {B : Nat} {A : Option Addr} {ls : List (List Int)} (h : Rows2 w B A ls) (hk : ∀ p : Addr, p.block < B → w'.cell? p = w.cell? p) : Rows2 w' B A ls := fun hn => by
 obtain ⟨ad, e, hb, hc⟩ := h hn
 refine ⟨ad, e, hb, fun k l hl => ?_⟩
 obtain ⟨Ak, ck, h1, h2, h3⟩ := hc k l hl
 exact ⟨Ak, ck, (hk _ (by rw [add_block]; exact hb)).trans h1, h2.keep hk, h3⟩
theorem Rows2.below {w w' : World} {B C : Nat} {A : Option Addr} {ls : List (List Int)} (h : Rows2 w B A ls) (hb : Below C w w') (hC : B ≤ C) : Rows2 w' B A ls := h.keep fun _ hp => hb.cell (Nat.lt_of_lt_of_le hp hC)
theorem Rows2.more {w : World} {B B' : Nat} {A : Option Addr} {ls : List (List Int)} (h : Rows2 w B A ls) (hB : B ≤ B') : Rows2 w B' A ls := fun hn => by
 obtain ⟨ad, e, hb, hc⟩ := h hn
 refine ⟨ad, e, by omega, fun k l hl => ?_⟩
 obtain ⟨Ak, ck, h1, h2, h3⟩ := hc k l hl
 exact ⟨Ak, ck, h1, h2.more hB, h3⟩
theorem Rows2.at_ {w : World} {B : Nat} {A : Option Addr} {ls : List (List Int)} (h : Rows2 w B A ls) {k : Nat} (hk : k < ls.length) : ∃ ad Ak ck, A = some ad ∧ ad.block < B ∧ w.cell? (ad.add k) = some (.slice Ak ls[k].length ck) ∧ Its w B Ak ls[k] ∧ ls[k].length ≤ ck := by
 obtain ⟨ad, e, hb, hc⟩ := h (by intro e; subst e; simp at hk)
 obtain ⟨Ak, ck, h1, h2, h3⟩ := hc k _ (List.getElem?_eq_getElem hk)
 exact ⟨ad, Ak, ck, e, hb, h1, h2, h3⟩
theorem open_its1 {H : Type} {enc : TypeId × Value → H} {P : Program} {w : World} {base : Nat} {sp : Nat → Bool} {held : Bool} {t e : TypeId} {fuel : Nat} {cs : List Value} {x : DataW H × List MemPlace} (ht : P.underlying t = some (.slice e)) (he : P.underlying e = some (.int .i64)) (hc : P.cellsOf e = 1)
 (h : DataW.trod enc P w base sp held fuel t cs = some x) : ∃ A c, ∃ l : List Int, cs = [.slice A l.length c] ∧ Its w w.heap.size A l ∧ l.length ≤ c ∧ c ≤ maxLen ∧ ∀ i ∈ l, I64 i := by
 rcases open_ints ht he hc h with ⟨rfl, _⟩ | ⟨a, len, cap, zs, rfl, _, hl, hm, hz, _, hcell, hwf⟩
 · exact ⟨none, 0, [], rfl, Rd.none_ _ _ _, Nat.le_refl _, Nat.zero_le _, fun i hi => by cases hi⟩
 · have hlz : len ≤ zs.length := by rw [hz]; split <;> omega
   have hlen : (zs.take len).length = len := by rw [List.length_take]; omega
   refine ⟨some a, cap, zs.take len, by rw [hlen], fun hne => ?_, by rw [hlen]; exact hl, hm, fun i hi => ?_⟩
   · have hp : 0 < zs.length := by
      rcases Nat.eq_zero_or_pos zs.length with h0 | h0
      · exact absurd (by rw [List.eq_nil_of_length_eq_zero h0, List.take_nil]; rfl) hne
      · exact h0
     refine ⟨a, rfl, ?_, fun k v hk => ?_⟩
     · have := World.block_lt_of_cell? _ _ (hcell 0 hp)
       rwa [add_block] at this
     · rw [List.getElem?_map, List.getElem?_take] at hk
       split at hk
       · cases hzk : zs[k]? with
         | none => rw [hzk] at hk; cases hk
         | some n =>
          rw [hzk] at hk
          injection hk with hk
          subst hk
          obtain ⟨hlt, _⟩ := List.getElem?_eq_some_iff.1 hzk
          rw [hcell k hlt, List.getD_eq_getElem?_getD, hzk]
          rfl
       · cases hk
   · have := bounds_i64 (hwf i (List.mem_of_mem_take hi))
     unfold I64
     omega
theorem open_rows2 {H : Type} {enc : TypeId × Value → H} {P : Program} {w : World} {base : Nat} {sp : Nat → Bool} {held : Bool} {t e i : TypeId} {fuel : Nat} {cs : List Value} {x : DataW H × List MemPlace} (ht : P.underlying t = some (.slice e)) (hce : P.cellsOf e = 1) (he : P.underlying e = some (.slice i)) (hi : P.underlying i = some (.int .i64)) (hc : P.cellsOf i = 1)
 (h : DataW.trod enc P w base sp held fuel t cs = some x) : ∃ A c, ∃ ls : List (List Int), cs = [.slice A ls.length c] ∧ Rows2 w w.heap.size A ls ∧ ls.length ≤ c ∧ c ≤ maxLen ∧ ∀ l ∈ ls, l.length ≤ maxLen ∧ ∀ i ∈ l, I64 i := by
 rcases Go.Deep.open_slice1 ht hce h with ⟨rfl, _⟩ | ⟨a, len, cap, m, n, V, D, Pl, rfl, _, hl, hm, hmm, _, hx⟩
 · exact ⟨none, 0, [], rfl, fun h => absurd rfl h, Nat.le_refl _, Nat.zero_le _, fun _ h => by cases h⟩
 · have hlm : len ≤ m := by rw [hmm]; split <;> omega
   have hex : ∀ k : Nat, ∃ l : List Int, k < len → (∃ Ak ck, w.cell? (a.add k) = some (.slice Ak l.length ck) ∧ Its w w.heap.size Ak l ∧ l.length ≤ ck) ∧ l.length ≤ maxLen ∧ ∀ i ∈ l, I64 i := by
    intro k
    by_cases hk : k < len
    · obtain ⟨h1, h2⟩ := hx k (by omega)
      obtain ⟨Ak, ck, l, e1, e2, e3, e4, e5⟩ := open_its1 he hi hc h2
      simp only [List.cons.injEq, and_true] at e1
      rw [e1] at h1
      exact ⟨l, fun _ => ⟨⟨Ak, ck, h1, e2, e3⟩, by omega, e5⟩⟩
    · exact ⟨[], fun h => absurd h hk⟩
   have hlen : ((List.range len).map fun i => Classical.choose (hex i)).length = len := by rw [List.length_map, List.length_range]
   refine ⟨some a, cap, (List.range len).map fun i => Classical.choose (hex i), by rw [hlen], fun hn => ?_, by rw [hlen]; exact hl, hm, fun l hl => ?_⟩
   · have hpos : 0 < len := by
      rcases Nat.eq_zero_or_pos len with h | h
      · subst h; exact absurd rfl hn
      · exact h
     refine ⟨a, rfl, ?_, fun k l hkl => ?_⟩
     · obtain ⟨Ak, ck, h1, _⟩ := (Classical.choose_spec (hex 0) hpos).1
       have := World.block_lt_of_cell? _ _ h1
       rwa [add_block] at this
     · rw [List.getElem?_map] at hkl
       cases hr : (List.range len)[k]? with
       | none => rw [hr] at hkl; cases hkl
       | some j =>
        obtain ⟨hlt, hij⟩ := List.getElem?_eq_some_iff.1 hr
        rw [List.length_range] at hlt
        rw [List.getElem_range] at hij
        subst hij
        rw [hr] at hkl
        injection hkl with hkl
        rw [← hkl]
        exact (Classical.choose_spec (hex k) hlt).1
   · obtain ⟨i, hi, rfl⟩ := List.mem_map.1 hl
     exact (Classical.choose_spec (hex i) (List.mem_range.1 hi)).2
end Go.Proofs.YtgmgccepmalahaaGreat
namespace Go.Proofs.YtgmgccepmalahaaGreat
open Go.RowKit
open Go.ChangeShapes Go.WideShapes
open Whn (Gr Wh)
structure RmA where
 r : Rm
 a : Option Addr
 c : Nat
abbrev rvA (x : RmA) : Value := rv x.r x.a x.c
def RmIn (w : World) (x : RmA) : Prop := Rok x.r ∧ Whs w w.heap.size x.a x.r.l ∧ x.r.l.length ≤ x.c ∧ x.c ≤ maxLen
section
variable {H : Type} {enc : TypeId × Value → H} {W : World} {base : Nat} {spare : Nat → Bool} {held : Bool} {r : Reach} {b0 : Nat} {v : Value} {d : DataW H} {p : List MemPlace}
end
end Go.Proofs.YtgmgccepmalahaaGreat
namespace Go.Proofs.YtgmgccepmalahaaGreat
open Go.RowKit
section
variable {P : Program} (w : World)
theorem run_append_own_srcN (base : Nat) (t tx ty e : TypeId) (i : TypeInfo) (z : Value) (size bytes : Nat) (ht : P.underlying t = some (.slice e)) (hi : P.info? e = some i) (hz : i.zero = some z)
 (hsize : i.size = size) (hby : i.bytes = bytes) (hzs : z.cells.size = size) (v : Value) (n : Nat) (xs : List Value) (hown : w.ownsRow base e size v n xs)
 (x : Value) (m : Nat) (news : List Value) (hs : Src P size tx x m news w) (h63 : n + m ≤ maxLen) (hbytes : (n + m) * bytes ≤ 140737488355328) (hbase : base ≤ w.heap.size) :
 ∃ v' w', (Builtin.append_ #[t, tx] ty #[v, x]).run P w = .ok v' w' ∧ w'.ownsRow base e size v' (n + m) (xs ++ news) ∧ w.grownBy w' v.ownBlock := by
 have hs1 : Src P i.size tx x m news w := by rw [hsize]; exact hs
 have hnl := hs.newsLen
 have hgrow : ∀ (A : Option Addr) (cap : Nat) (hl : xs.length = n * size), cap < n + m → (Builtin.firstCells i.size n (.slice A n cap)).run P w.drew = .ok xs.toArray w.drew → ∀ ob,
  ∃ v' w', (Builtin.append_ #[t, tx] ty #[.slice A n cap, x]).run P w = .ok v' w' ∧ w'.ownsRow base e size v' (n + m) (xs ++ news) ∧ w.grownBy w' ob := by
  intro A cap hl hc hold ob
  have hge := grownCap_ge w (n + m) cap e
  have hgm : grownCap w (n + m) cap e ≤ maxLen := grownCap_le_maxLen w (n + m) cap e h63
  have hr := run_append_grow_src (P := P) w t tx ty e i z ht hi hz A n cap xs hold x m news hs1 hc (by unfold maxLen at h63; omega) (growslice_fits hc (by rw [hby]; exact hbytes))
  have hlen : (xs ++ news).length = (n + m) * size := by rw [List.length_append, hl, hnl, Nat.add_mul]
  refine ⟨_, _, hr, ⟨hlen, .inr ⟨w.heap.size, _, _, rfl, hbase, heap_alloc_new w.drew _, hge, hgm, ?_, ?_⟩⟩, ⟨rfl, rfl, rfl, by simp, fun k hk _ => heap_alloc_old w.drew _ hk⟩⟩
  · simp only [Array.size_append, List.size_toArray, size_zeroCells, hzs, hlen]
    rw [← Nat.add_mul]
    congr 1
    omega
  · simp only [Array.toList_append]
    rw [← hlen]
    exact List.take_left
 rcases hown with ⟨hxl, ⟨rfl, rfl⟩ | ⟨g, cap, cur, rfl, hbg, hg, hncap, hcm, hcs, htake⟩⟩
 · obtain rfl : xs = [] := List.eq_nil_of_length_eq_zero (by simpa using hxl)
   rcases Nat.eq_zero_or_pos m with rfl | hm
   · obtain rfl : news = [] := List.eq_nil_of_length_eq_zero (by simpa using hnl)
     refine ⟨.slice none 0 0, w, ?_, ⟨by simp, .inl ⟨rfl, rfl⟩⟩, ⟨rfl, rfl, rfl, Nat.le_refl _, fun _ _ _ => rfl⟩⟩
     rcases hs1.kind with ⟨e', hk⟩ | hk <;> simp [Builtin.append_, run_underlying ht, run_underlying hk, sizeOf, typeInfo, hi, hs1.len, hs1.cells]
   · exact hgrow none 0 (by simp) (by omega) (by simp [run_firstCells_none]) _
 by_cases hroom : n + m ≤ cap
 · have hst := run_storeCells_at P g (n * i.size) e news 0 cur w hg (by rw [hsize, hcs, hnl, Nat.add_zero, ← Nat.add_mul]; exact Nat.mul_le_mul_right _ hroom) hs.one
   simp only [Nat.add_zero] at hst
   have hr : (Builtin.append_ #[t, tx] ty #[.slice (some ⟨g, 0, none⟩) n cap, x]).run P w = .ok (.slice (some ⟨g, 0, none⟩) (n + m) cap) (w.setRow g (cur.toList.take (n * i.size) ++ news ++ cur.toList.drop (n * i.size + news.length)).toArray) := by
    rcases hs1.kind with ⟨e', hk⟩ | hk <;> simp [Builtin.append_, run_underlying ht, run_underlying hk, sizeOf, typeInfo, hi, hs1.len, hroom, hs1.cells, Addr.add_lit, hst]
   have hlen : (xs ++ news).length = (n + m) * size := by rw [List.length_append, hxl, hnl, Nat.add_mul]
   have hle : n * size + news.length ≤ cap * size := by rw [hnl, ← Nat.add_mul]; exact Nat.mul_le_mul_right _ hroom
   refine ⟨_, _, hr, ⟨hlen, .inr ⟨g, cap, _, rfl, hbg, setRow_heap w g cur _ e _ hg, hroom, hcm, ?_, ?_⟩⟩, ⟨rfl, rfl, rfl, by simp, fun k _ hk => setRow_other w g k _ (fun e => hk (by rw [e]; rfl))⟩⟩
   · simp only [List.size_toArray, List.length_append, List.length_take, List.length_drop, Array.length_toList, hsize]
     rw [hcs]
     omega
   · rw [hsize, htake, ← hlen]
     exact List.take_left
 · have holds : ∀ j u, xs[j]? = some u → w.cell? ((⟨g, 0, none⟩ : Addr).add j) = some u :=
    World.ownsRow.cells (v := .slice (some ⟨g, 0, none⟩) n cap) ⟨hxl, .inr ⟨g, cap, cur, rfl, hbg, hg, hncap, hcm, hcs, htake⟩⟩ rfl
   have hold : (Builtin.firstCells i.size n (.slice (some ⟨g, 0, none⟩) n cap)).run P w.drew = .ok xs.toArray w.drew :=
    run_firstCells_some w.drew i.size n ⟨g, 0, none⟩ n cap xs (by rw [hxl, hsize]) holds
   exact hgrow _ cap hxl (by omega) hold _
end
theorem step_append_srcN {P : Program} {w : World} {ops : Array Oper} {o : Oper} {a : Act} {K : Act → World → Prop} {Q : Exit → Act → World → Prop} {E : Prop} (hgd : o.guard = none) (s x : Operand) (t tx : TypeId)
 (ho : o.op = .call { callee := .builtin .append, args := #[s, x], argTypes := #[t, tx] })
 (base : Nat) (e : TypeId) (i : TypeInfo) (z : Value) (size bytes : Nat) (ht : P.underlying t = some (.slice e)) (hi : P.info? e = some i) (hz : i.zero = some z)
 (hsize : i.size = size) (hby : i.bytes = bytes) (hzs : z.cells.size = size) (v : Value) (n : Nat) (xs : List Value) (hs : a.eval s = v) (hown : w.ownsRow base e size v n xs)
 (xv : Value) (m : Nat) (news : List Value) (hx : a.eval x = xv) (hsrc : Src P size tx xv m news w) (h63 : n + m ≤ maxLen) (hbytes : (n + m) * bytes ≤ 140737488355328) (hbase : base ≤ w.heap.size)
 (h : ∀ v' w', w'.ownsRow base e size v' (n + m) (xs ++ news) → w.grownBy w' v.ownBlock → K (a.put o.dst v') w') :
 if Region.wanted o (yielded ops a.tmps) = true then Oper.wp P o a w K Q else E := by
 have hw : Region.wanted o (yielded ops a.tmps) = true := by simp [Region.wanted, hgd]
 rw [if_pos hw]
 obtain ⟨v', w', hrun, r1, r2⟩ := run_append_own_srcN (P := P) w base t tx o.type e i z size bytes ht hi hz hsize hby hzs v n xs hown xv m news hsrc h63 hbytes hbase
 unfold Oper.wp
 simp [execOp, ho, resolve, invoke, builtin, hs, hx, hrun, Result.andThen]
 exact h v' w' r1 r2
theorem wpList_append_srcN {P : Program} {w : World} {ops : Array Oper} {rest : List Oper} {o : Oper} {a : Act} {Q : Exit → Act → World → Prop} (hgd : o.guard = none) (s x : Operand) (t tx : TypeId)
 (ho : o.op = .call { callee := .builtin .append, args := #[s, x], argTypes := #[t, tx] })
 (base : Nat) (e : TypeId) (i : TypeInfo) (z : Value) (size bytes : Nat) (ht : P.underlying t = some (.slice e)) (hi : P.info? e = some i) (hz : i.zero = some z)
 (hsize : i.size = size) (hby : i.bytes = bytes) (hzs : z.cells.size = size) (v : Value) (n : Nat) (xs : List Value) (hs : a.eval s = v) (hown : w.ownsRow base e size v n xs)
 (xv : Value) (m : Nat) (news : List Value) (hx : a.eval x = xv) (hsrc : Src P size tx xv m news w) (h63 : n + m ≤ maxLen) (hbytes : (n + m) * bytes ≤ 140737488355328) (hbase : base ≤ w.heap.size)
 (h : ∀ v' w', w'.ownsRow base e size v' (n + m) (xs ++ news) → w.grownBy w' v.ownBlock → wpList P ops Q rest (a.put o.dst v') w') : wpList P ops Q (o :: rest) a w := by
 refine wpList_plain hgd fun K hK' => ?_
 obtain ⟨v', w', hrun, r1, r2⟩ := run_append_own_srcN (P := P) w base t tx o.type e i z size bytes ht hi hz hsize hby hzs v n xs hown xv m news hsrc h63 hbytes hbase
 unfold Oper.wp
 simp [execOp, ho, resolve, invoke, builtin, hs, hx, hrun, Result.andThen]
 exact hK' _ _ (h v' w' r1 r2)
end Go.Proofs.YtgmgccepmalahaaGreat
namespace Go.Proofs.YtgmgccepmalahaaGreat
open Go.RowKit Go.ChangeShapes Go.WideShapes
section
variable {α : Type}
def ecells (en : α → List Value) (l : List α) : List Value := l.flatMap en
theorem ecells_cons (en : α → List Value) (x : α) (r : List α) : ecells en (x :: r) = en x ++ ecells en r := rfl
theorem ecells_append (en : α → List Value) (a b : List α) : ecells en (a ++ b) = ecells en a ++ ecells en b := by unfold ecells; rw [List.flatMap_append]
theorem ecells_snoc (en : α → List Value) (a : List α) (x : α) : ecells en (a ++ [x]) = ecells en a ++ en x := by rw [ecells_append, ecells_cons]; show ecells en a ++ (en x ++ []) = _; rw [List.append_nil]
theorem ecells_len {en : α → List Value} {K : Nat} (hK : ∀ x, (en x).length = K) (l : List α) : (ecells en l).length = l.length * K := by
 induction l with
 | nil => rw [List.length_nil, Nat.zero_mul]; rfl
 | cons x r ih => rw [ecells_cons, List.length_append, hK, ih, List.length_cons, Nat.succ_mul, Nat.add_comm]
theorem ecells_get {en : α → List Value} {K : Nat} (hK : ∀ x, (en x).length = K) (l : List α) (k : Nat) (x : α) (h : l[k]? = some x) (j : Nat) (hj : j < K) : (ecells en l)[k * K + j]? = (en x)[j]? := by
 induction l generalizing k with
 | nil => cases h
 | cons y r ih =>
  rw [ecells_cons]
  cases k with
  | zero =>
   rw [List.getElem?_cons_zero] at h
   injection h with h
   subst h
   rw [Nat.zero_mul, Nat.zero_add, List.getElem?_append_left (by rw [hK]; exact hj)]
  | succ k =>
   rw [List.getElem?_cons_succ] at h
   rw [List.getElem?_append_right (by rw [hK, Nat.succ_mul]; omega), hK, Nat.succ_mul, show k * K + K + j - K = k * K + j by omega]
   exact ih k h
theorem ecells_ne {en : α → List Value} {K : Nat} (hK : ∀ x, (en x).length = K) (h0 : 0 < K) {l : List α} (h : l ≠ []) : ecells en l ≠ [] := fun e => by
 have := ecells_len hK l
 rw [e, List.length_nil] at this
 rcases Nat.eq_zero_or_pos l.length with hl | hl
 · exact h (List.eq_nil_of_length_eq_zero hl)
 · have := Nat.mul_le_mul hl h0; omega
abbrev Es (en : α → List Value) (w : World) (B : Nat) (A : Option Addr) (l : List α) : Prop := Rd w B A (ecells en l)
theorem Es.get {en : α → List Value} {K : Nat} (hK : ∀ x, (en x).length = K) (h0 : 0 < K) {w : World} {B : Nat} {A : Option Addr} {l : List α} (h : Es en w B A l) {k : Nat} (hk : k < l.length) :
 ∃ ad x, A = some ad ∧ ad.block < B ∧ Hid (l[k]? = some x) ∧ x ∈ l ∧ ∀ j v, (en x)[j]? = some v → w.cell? (ad.add (k * K + j)) = some v := by
 obtain ⟨ad, e, hb, hc⟩ := h (ecells_ne hK h0 (fun e => by rw [e] at hk; exact absurd hk (Nat.not_lt_zero k)))
 refine ⟨ad, l[k], e, hb, List.getElem?_eq_getElem hk, List.getElem_mem hk, fun j v hv => hc _ _ ?_⟩
 rw [ecells_get hK l k l[k] (List.getElem?_eq_getElem hk) j (by have := (List.getElem?_eq_some_iff.1 hv).1; rw [hK] at this; exact this)]
 exact hv
theorem es_at {en : α → List Value} {K : Nat} (hK : ∀ x, (en x).length = K) {w : World} {B : Nat} {ad : Addr} {l : List α} (h : Es en w B (some ad) l) {k : Nat} {x : α} (hx : l[k]? = some x) (j : Nat) (v : Value) (hv : (en x)[j]? = some v) :
 w.cell? (ad.add (k * K + j)) = some v := by
 have hjK : j < K := by have := (List.getElem?_eq_some_iff.1 hv).1; rw [hK] at this; exact this
 have hne : l ≠ [] := fun e => by rw [e] at hx; cases hx
 obtain ⟨ad', e, _, hc⟩ := h (ecells_ne hK (by omega) hne)
 injection e with e
 subst e
 exact hc _ _ ((ecells_get hK l k x hx j hjK).trans hv)
theorem ecells_read {en : α → List Value} {K : Nat} (hK : ∀ x, (en x).length = K) (h0 : 0 < K) {w : World} {a : Addr} {l : List α} (h : ∀ i x, l[i]? = some x → ∀ j v, (en x)[j]? = some v → w.cell? (a.add (i * K + j)) = some v) :
 ∀ k v, (ecells en l)[k]? = some v → w.cell? (a.add k) = some v := by
 intro k v hk
 have hlt : k < l.length * K := by rw [← ecells_len hK]; exact (List.getElem?_eq_some_iff.1 hk).1
 have hi : k / K < l.length := Nat.div_lt_of_lt_mul (by rw [Nat.mul_comm]; exact hlt)
 have ho := List.getElem?_eq_getElem hi
 have hm : k % K < K := Nat.mod_lt _ h0
 have e : k / K * K + k % K = k := by rw [Nat.mul_comm]; exact Nat.div_add_mod k K
 have hg := ecells_get hK l (k / K) _ ho (k % K) hm
 rw [e, hk] at hg
 have := h (k / K) _ ho (k % K) v hg.symm
 rwa [e] at this
theorem open_es {en : α → List Value} {K : Nat} (hK : ∀ x, (en x).length = K) (h0 : 0 < K) {ok : α → Prop} (dflt : α) {H : Type} {enc : TypeId × Value → H} {P : Program} {w : World} {base : Nat} {sp : Nat → Bool} {held : Bool} {t e : TypeId} {fuel : Nat} {cs : List Value} {x : DataW H × List MemPlace}
 (ht : P.underlying t = some (.slice e)) (hC : P.cellsOf e = K)
 (hel : ∀ (n : Nat) (cs' : List Value) (y : DataW H × List MemPlace), cs'.length = K → DataW.trod enc P w base sp held n e cs' = some y → ∃ o, cs' = en o ∧ ok o)
 (h : DataW.trod enc P w base sp held fuel t cs = some x) : ∃ A c, ∃ l : List α, cs = [.slice A l.length c] ∧ Es en w w.heap.size A l ∧ l.length ≤ c ∧ c ≤ maxLen ∧ ∀ y ∈ l, ok y := by
 rcases Go.Deep.open_slice ht h with ⟨rfl, _⟩ | ⟨a, len, cap, m, n, D, Pl, rfl, _, hl, hm, hmm, hx, hi⟩
 · exact ⟨none, 0, [], rfl, Rd.none_ _ _ _, Nat.le_refl _, Nat.zero_le _, fun _ h => by cases h⟩
 · have hlm : len ≤ m := by rw [hmm]; split <;> omega
   have hex : ∀ i : Nat, ∃ o : α, i < len → (∀ j v, (en o)[j]? = some v → w.cell? (a.add (i * K + j)) = some v) ∧ ok o := by
    intro i
    by_cases hil : i < len
    · obtain ⟨cs', hc, htr⟩ := hi i (by omega)
      rw [hC] at hc
      obtain ⟨_, hcl, hat⟩ := World.cells?_some hc
      obtain ⟨o, rfl, hok⟩ := hel _ _ _ hcl htr
      refine ⟨o, fun _ => ⟨fun j v hv => ?_, hok⟩⟩
      have hjK : j < K := by have := (List.getElem?_eq_some_iff.1 hv).1; rw [hK] at this; exact this
      have := hat j hjK
      rw [Addr.add_add, hv] at this
      exact this
    · exact ⟨dflt, fun h => absurd h hil⟩
   have hlen : ((List.range len).map fun i => Classical.choose (hex i)).length = len := by rw [List.length_map, List.length_range]
   refine ⟨some a, cap, (List.range len).map fun i => Classical.choose (hex i), by rw [hlen], fun hn => ?_, by rw [hlen]; exact hl, hm, fun o ho => ?_⟩
   · have hpos : 0 < len := by
      rcases Nat.eq_zero_or_pos len with h | h
      · subst h; exact absurd rfl hn
      · exact h
     refine ⟨a, rfl, ?_, ecells_read hK h0 fun i o hio => ?_⟩
     · have hv : (en (Classical.choose (hex 0)))[0]? = some ((en (Classical.choose (hex 0)))[0]'(by rw [hK]; exact h0)) := List.getElem?_eq_getElem _
       have := (Classical.choose_spec (hex 0) hpos).1 0 _ hv
       have := World.block_lt_of_cell? _ _ this
       rwa [add_block] at this
     · rw [List.getElem?_map] at hio
       cases hr : (List.range len)[i]? with
       | none => rw [hr] at hio; cases hio
       | some j =>
        obtain ⟨hlt, hij⟩ := List.getElem?_eq_some_iff.1 hr
        rw [List.length_range] at hlt
        rw [List.getElem_range] at hij
        subst hij
        rw [hr] at hio
        injection hio with hio
        rw [← hio]
        exact (Classical.choose_spec (hex i) hlt).1
   · obtain ⟨i, hi, rfl⟩ := List.mem_map.1 ho
     exact (Classical.choose_spec (hex i) (List.mem_range.1 hi)).2
end
end Go.Proofs.YtgmgccepmalahaaGreat
namespace Go.Proofs.YtgmgccepmalahaaGreat
open Go.RowKit Go.ChangeShapes Go.WideShapes
open Whn (Gr Wh)
section
variable {H : Type} {enc : TypeId × Value → H} {P : Program} {w : World} {base : Nat} {sp : Nat → Bool} {held : Bool}
theorem el_when {e : TypeId} {f0 f1 f2 f3 : Field} (he : P.underlying e = some (.struct #[f0, f1, f2, f3])) (hone : Go.Deep.oneCellFields P #[f0, f1, f2, f3] = true)
 (h0 : P.underlying f0.type = some (.int .u32)) (h1 : P.underlying f1.type = some (.int .u8)) (h2 : P.underlying f2.type = some (.int .i64)) (h3 : P.underlying f3.type = some (.int .i64))
 (n : Nat) (cs : List Value) (y : DataW H × List MemPlace) (hcl : cs.length = 4) (htr : DataW.trod enc P w base sp held n e cs = some y) : ∃ o : Wh, cs = wc o ∧ Wok o := by
 obtain ⟨ys, n', _, hag, _, hyl, hf⟩ := DataW.trod_struct he htr
 obtain ⟨o0, k0⟩ := Go.Deep.hone_of hone 0 f0 rfl
 obtain ⟨o1, k1⟩ := Go.Deep.hone_of hone 1 f1 rfl
 obtain ⟨o2, k2⟩ := Go.Deep.hone_of hone 2 f2 rfl
 obtain ⟨o3, k3⟩ := Go.Deep.hone_of hone 3 f3 rfl
 have y0 : ys[0]? = some (ys[0]'(by rw [hyl]; simp)) := List.getElem?_eq_getElem _
 have y1 : ys[1]? = some (ys[1]'(by rw [hyl]; simp)) := List.getElem?_eq_getElem _
 have y2 : ys[2]? = some (ys[2]'(by rw [hyl]; simp)) := List.getElem?_eq_getElem _
 have y3 : ys[3]? = some (ys[3]'(by rw [hyl]; simp)) := List.getElem?_eq_getElem _
 obtain ⟨v0, c0, t0⟩ := field_one o0 k0 (by omega) ((hf 0 f0 rfl).trans y0)
 obtain ⟨v1, c1, t1⟩ := field_one o1 k1 (by omega) ((hf 1 f1 rfl).trans y1)
 obtain ⟨v2, c2, t2⟩ := field_one o2 k2 (by omega) ((hf 2 f2 rfl).trans y2)
 obtain ⟨v3, c3, t3⟩ := field_one o3 k3 (by omega) ((hf 3 f3 rfl).trans y3)
 obtain ⟨z0, e0, _, q0⟩ := DataW.trod_int h0 t0
 obtain ⟨z1, e1, _, q1⟩ := DataW.trod_int h1 t1
 obtain ⟨z2, e2, _, q2⟩ := DataW.trod_int h2 t2
 obtain ⟨z3, e3, _, q3⟩ := DataW.trod_int h3 t3
 simp only [List.cons.injEq, and_true] at e0 e1 e2 e3
 subst e0; subst e1; subst e2; subst e3
 have b0 := bounds_u32 q0
 have b1 := bounds_u8 q1
 have b2 := bounds_i64 q2
 have b3 := bounds_i64 q3
 obtain ⟨n0, rfl⟩ := Int.eq_ofNat_of_zero_le b0.1
 obtain ⟨n1, rfl⟩ := Int.eq_ofNat_of_zero_le b1.1
 refine ⟨⟨n0, n1, z2, z3⟩, ?_, by unfold Wok I64; simp only; omega⟩
 match cs, hcl, c0, c1, c2, c3 with
 | [u0, u1, u2, u3], _, c0, c1, c2, c3 =>
  have g0 := Option.some.inj (show some u0 = _ from c0)
  have g1 := Option.some.inj (show some u1 = _ from c1)
  have g2 := Option.some.inj (show some u2 = _ from c2)
  have g3 := Option.some.inj (show some u3 = _ from c3)
  rw [g0, g1, g2, g3]
structure Tm where
 w : Wh
 c : Int
abbrev enT (x : Tm) : List Value := [.int .u32 (x.w.w : Int), .int .u8 (x.w.d : Int), .int .i64 x.w.s, .int .i64 x.w.l, .int .i64 x.c]
def Tok (x : Tm) : Prop := Wok x.w ∧ I64 x.c
theorem enT_len (x : Tm) : (enT x).length = 5 := rfl
theorem el_time {e : TypeId} {f0 f1 : Field} (he : P.underlying e = some (.struct #[f0, f1])) (o0 : f0.offset = 0) (k0 : P.cellsOf f0.type = 4) (o1 : f1.offset = 4) (k1 : P.cellsOf f1.type = 1)
 (hw : ∀ (n : Nat) (cs : List Value) (y : DataW H × List MemPlace), cs.length = 4 → DataW.trod enc P w base sp held n f0.type cs = some y → ∃ o : Wh, cs = wc o ∧ Wok o)
 (h1 : P.underlying f1.type = some (.int .i64))
 (n : Nat) (cs : List Value) (y : DataW H × List MemPlace) (hcl : cs.length = 5) (htr : DataW.trod enc P w base sp held n e cs = some y) : ∃ o : Tm, cs = enT o ∧ Tok o := by
 obtain ⟨ys, n', _, hag, _, hyl, hf⟩ := DataW.trod_struct he htr
 have y0 : ys[0]? = some (ys[0]'(by rw [hyl]; simp)) := List.getElem?_eq_getElem _
 have y1 : ys[1]? = some (ys[1]'(by rw [hyl]; simp)) := List.getElem?_eq_getElem _
 have t0 := (hf 0 f0 rfl).trans y0
 rw [o0, k0] at t0
 obtain ⟨x, hx, hok⟩ := hw _ _ _ (by rw [List.drop_zero, List.length_take]; omega) t0
 obtain ⟨v1, c1, t1⟩ := field_one o1 k1 (by omega) ((hf 1 f1 rfl).trans y1)
 obtain ⟨z1, e1, _, q1⟩ := DataW.trod_int h1 t1
 simp only [List.cons.injEq, and_true] at e1
 subst e1
 have b1 := bounds_i64 q1
 refine ⟨⟨x, z1⟩, ?_, hok, by unfold I64; simp only; omega⟩
 match cs, hcl, hx, c1 with
 | [u0, u1, u2, u3, u4], _, hx, c1 =>
  have c1 : some u4 = _ := c1
  injection c1 with c1
  subst c1
  have hx : [u0, u1, u2, u3] = wc x := hx
  injection hx with g0 hx
  injection hx with g1 hx
  injection hx with g2 hx
  injection hx with g3 hx
  subst g0; subst g1; subst g2; subst g3
  rfl
structure Pl where
 r : Int
 c : Int
abbrev enP (x : Pl) : List Value := [.int .i64 x.r, .int .i64 x.c]
def PlOk (x : Pl) : Prop := I64 x.r ∧ I64 x.c
theorem enP_len (x : Pl) : (enP x).length = 2 := rfl
theorem el_place {e : TypeId} {f0 f1 : Field} (he : P.underlying e = some (.struct #[f0, f1])) (hone : Go.Deep.oneCellFields P #[f0, f1] = true)
 (h0 : P.underlying f0.type = some (.int .i64)) (h1 : P.underlying f1.type = some (.int .i64))
 (n : Nat) (cs : List Value) (y : DataW H × List MemPlace) (hcl : cs.length = 2) (htr : DataW.trod enc P w base sp held n e cs = some y) : ∃ o : Pl, cs = enP o ∧ PlOk o := by
 obtain ⟨ys, n', _, hag, _, hyl, hf⟩ := DataW.trod_struct he htr
 obtain ⟨o0, k0⟩ := Go.Deep.hone_of hone 0 f0 rfl
 obtain ⟨o1, k1⟩ := Go.Deep.hone_of hone 1 f1 rfl
 have y0 : ys[0]? = some (ys[0]'(by rw [hyl]; simp)) := List.getElem?_eq_getElem _
 have y1 : ys[1]? = some (ys[1]'(by rw [hyl]; simp)) := List.getElem?_eq_getElem _
 obtain ⟨v0, c0, t0⟩ := field_one o0 k0 (by omega) ((hf 0 f0 rfl).trans y0)
 obtain ⟨v1, c1, t1⟩ := field_one o1 k1 (by omega) ((hf 1 f1 rfl).trans y1)
 obtain ⟨z0, e0, _, q0⟩ := DataW.trod_int h0 t0
 obtain ⟨z1, e1, _, q1⟩ := DataW.trod_int h1 t1
 simp only [List.cons.injEq, and_true] at e0 e1
 subst e0; subst e1
 have b0 := bounds_i64 q0
 have b1 := bounds_i64 q1
 refine ⟨⟨z0, z1⟩, ?_, by unfold I64; simp only; omega, by unfold I64; simp only; omega⟩
 match cs, hcl, c0, c1 with
 | [u0, u1], _, c0, c1 =>
  have g0 := Option.some.inj (show some u0 = _ from c0)
  have g1 := Option.some.inj (show some u1 = _ from c1)
  rw [g0, g1]
end
end Go.Proofs.YtgmgccepmalahaaGreat
namespace Go.Proofs.YtgmgccepmalahaaGreat
open Go.RowKit Go.ChangeShapes Go.WideShapes
open Whn (Gr Wh)
structure Cl where
 n : List UInt8
 s : Int
 g : Nat
 p : List Int
 t : List Tm
 l : List Pl
 o : Int
structure Cw where
 a : Option Addr
 ac : Nat
 b : Option Addr
 bc : Nat
 c : Option Addr
 cc : Nat
abbrev cv (x : Cl) (r : Cw) : Value := .agg #[txt x.n, .int .i64 x.s, .int .u16 (x.g : Int), .slice r.a x.p.length r.ac, .slice r.b x.t.length r.bc, .slice r.c x.l.length r.cc, .int .i64 x.o]
abbrev ccl (x : Cl) (r : Cw) : List Value := [txt x.n, .int .i64 x.s, .int .u16 (x.g : Int), .slice r.a x.p.length r.ac, .slice r.b x.t.length r.bc, .slice r.c x.l.length r.cc, .int .i64 x.o]
def Cok (x : Cl) : Prop := x.n.length ≤ maxLen ∧ I64 x.s ∧ x.g < 65536 ∧ (∀ i ∈ x.p, I64 i) ∧ (∀ y ∈ x.t, Tok y) ∧ (∀ y ∈ x.l, PlOk y) ∧ I64 x.o
def Clw (w : World) (B : Nat) (x : Cl) (r : Cw) : Prop := Its w B r.a x.p ∧ Es enT w B r.b x.t ∧ Es enP w B r.c x.l
theorem Clw.next {w w' : World} {x : Cl} {r : Cw} (h : Clw w w.heap.size x r) (hb : Below w.heap.size w w') : Clw w' w'.heap.size x r :=
 ⟨(h.1.below hb (Nat.le_refl _)).more hb.size, (h.2.1.below hb (Nat.le_refl _)).more hb.size, (h.2.2.below hb (Nat.le_refl _)).more hb.size⟩
def Clc (x : Cl) (r : Cw) : Prop := (x.p.length ≤ r.ac ∧ r.ac ≤ maxLen) ∧ (x.t.length ≤ r.bc ∧ r.bc ≤ maxLen) ∧ (x.l.length ≤ r.cc ∧ r.cc ≤ maxLen)
theorem Mem.cl {w X : World} {l : Obs} (h : Mem w X l) {B : Nat} {x : Cl} {r : Cw} {t : TypeId} (hm : (B, ccl x r, t) ∈ l) :
 X.cell? ⟨B, 0, none⟩ = some (txt x.n) ∧ X.cell? ⟨B, 1, none⟩ = some (.int .i64 x.s) ∧ X.cell? ⟨B, 2, none⟩ = some (.int .u16 (x.g : Int)) ∧ X.cell? ⟨B, 3, none⟩ = some (.slice r.a x.p.length r.ac) ∧ X.cell? ⟨B, 4, none⟩ = some (.slice r.b x.t.length r.bc) ∧ X.cell? ⟨B, 5, none⟩ = some (.slice r.c x.l.length r.cc) ∧ X.cell? ⟨B, 6, none⟩ = some (.int .i64 x.o) :=
 ⟨h.cell hm rfl, h.cell hm rfl, h.cell hm rfl, h.cell hm rfl, h.cell hm rfl, h.cell hm rfl, h.cell hm rfl⟩
structure ClA where
 x : Cl
 r : Cw
abbrev cvA (x : ClA) : Value := cv x.x x.r
def ClIn (w : World) (x : ClA) : Prop := Cok x.x ∧ Clw w w.heap.size x.x x.r ∧ Clc x.x x.r
section
variable {H : Type} {enc : TypeId × Value → H} {W : World} {base : Nat} {spare : Nat → Bool} {held : Bool} {r : Reach} {b0 : Nat} {v : Value} {d : DataW H} {p : List MemPlace}
end
end Go.Proofs.YtgmgccepmalahaaGreat
namespace Go.Proofs.YtgmgccepmalahaaGreat
open Go.RowKit Go.ChangeShapes Go.WideShapes
open Whn (Gr Wh)
def Rows3 (w : World) (B : Nat) (A : Option Addr) (ws : List (List (List Int))) : Prop :=
 ws ≠ [] → ∃ ad, A = some ad ∧ ad.block < B ∧ ∀ k ls, ws[k]? = some ls → ∃ Ak ck, w.cell? (ad.add k) = some (.slice Ak ls.length ck) ∧ Rows2 w B Ak ls ∧ ls.length ≤ ck
theorem Rows3.keep {w w' : World} {B : Nat} {A : Option Addr} {ws : List (List (List Int))} (h : Rows3 w B A ws) (hk : ∀ p : Addr, p.block < B → w'.cell? p = w.cell? p) : Rows3 w' B A ws := fun hn => by
 obtain ⟨ad, e, hb, hc⟩ := h hn
 refine ⟨ad, e, hb, fun k l hl => ?_⟩
 obtain ⟨Ak, ck, h1, h2, h3⟩ := hc k l hl
 exact ⟨Ak, ck, (hk _ (by rw [add_block]; exact hb)).trans h1, h2.keep hk, h3⟩
theorem Rows3.below {w w' : World} {B C : Nat} {A : Option Addr} {ws : List (List (List Int))} (h : Rows3 w B A ws) (hb : Below C w w') (hC : B ≤ C) : Rows3 w' B A ws := h.keep fun _ hp => hb.cell (Nat.lt_of_lt_of_le hp hC)
theorem Rows3.more {w : World} {B B' : Nat} {A : Option Addr} {ws : List (List (List Int))} (h : Rows3 w B A ws) (hB : B ≤ B') : Rows3 w B' A ws := fun hn => by
 obtain ⟨ad, e, hb, hc⟩ := h hn
 refine ⟨ad, e, by omega, fun k l hl => ?_⟩
 obtain ⟨Ak, ck, h1, h2, h3⟩ := hc k l hl
 exact ⟨Ak, ck, h1, h2.more hB, h3⟩
theorem Rows3.next {w w' : World} {A : Option Addr} {ws : List (List (List Int))} (h : Rows3 w w.heap.size A ws) (hb : Below w.heap.size w w') : Rows3 w' w'.heap.size A ws := (h.below hb (Nat.le_refl _)).more hb.size
theorem Rows2.next {w w' : World} {A : Option Addr} {ls : List (List Int)} (h : Rows2 w w.heap.size A ls) (hb : Below w.heap.size w w') : Rows2 w' w'.heap.size A ls := (h.below hb (Nat.le_refl _)).more hb.size
theorem Rows3.at_ {w : World} {B : Nat} {A : Option Addr} {ws : List (List (List Int))} (h : Rows3 w B A ws) {k : Nat} (hk : k < ws.length) : ∃ ad Ak ck ls, A = some ad ∧ ad.block < B ∧ Hid (ws[k]? = some ls) ∧ ls ∈ ws ∧ w.cell? (ad.add k) = some (.slice Ak ls.length ck) ∧ Rows2 w B Ak ls ∧ ls.length ≤ ck := by
 obtain ⟨ad, e, hb, hc⟩ := h (by intro e; subst e; simp at hk)
 obtain ⟨Ak, ck, h1, h2, h3⟩ := hc k _ (List.getElem?_eq_getElem hk)
 exact ⟨ad, Ak, ck, _, e, hb, List.getElem?_eq_getElem hk, List.getElem_mem hk, h1, h2, h3⟩
theorem Rows2.get {w : World} {B : Nat} {A : Option Addr} {ls : List (List Int)} (h : Rows2 w B A ls) {k : Nat} (hk : k < ls.length) : ∃ ad Ak ck l, A = some ad ∧ ad.block < B ∧ Hid (ls[k]? = some l) ∧ l ∈ ls ∧ w.cell? (ad.add k) = some (.slice Ak l.length ck) ∧ Its w B Ak l ∧ l.length ≤ ck := by
 obtain ⟨ad, Ak, ck, e, hb, h1, h2, h3⟩ := h.at_ hk
 exact ⟨ad, Ak, ck, _, e, hb, List.getElem?_eq_getElem hk, List.getElem_mem hk, h1, h2, h3⟩
def Lsok (ls : List (List Int)) : Prop := ls.length ≤ maxLen ∧ ∀ l ∈ ls, l.length ≤ maxLen ∧ ∀ i ∈ l, I64 i
def Wsok (ws : List (List (List Int))) : Prop := ws.length ≤ maxLen ∧ ∀ ls ∈ ws, Lsok ls
theorem open_rows3 {H : Type} {enc : TypeId × Value → H} {P : Program} {w : World} {base : Nat} {sp : Nat → Bool} {held : Bool} {t e e1 i : TypeId} {f0 : Field} {fuel : Nat} {cs : List Value} {x : DataW H × List MemPlace} (ht : P.underlying t = some (.slice e)) (hce : P.cellsOf e = 1)
 (hst : P.underlying e = some (.struct #[f0])) (ho : f0.offset = 0) (hk0 : P.cellsOf f0.type = 1) (h0 : P.underlying f0.type = some (.slice e1)) (hce1 : P.cellsOf e1 = 1) (he : P.underlying e1 = some (.slice i)) (hi : P.underlying i = some (.int .i64)) (hc : P.cellsOf i = 1)
 (h : DataW.trod enc P w base sp held fuel t cs = some x) : ∃ A c, ∃ ws : List (List (List Int)), cs = [.slice A ws.length c] ∧ Rows3 w w.heap.size A ws ∧ ws.length ≤ c ∧ c ≤ maxLen ∧ ∀ ls ∈ ws, Lsok ls := by
 rcases Go.Deep.open_slice1 ht hce h with ⟨rfl, _⟩ | ⟨a, len, cap, m, n, V, D, Pl, rfl, _, hl, hm, hmm, _, hx⟩
 · exact ⟨none, 0, [], rfl, fun h => absurd rfl h, Nat.le_refl _, Nat.zero_le _, fun _ h => by cases h⟩
 · have hlm : len ≤ m := by rw [hmm]; split <;> omega
   have hex : ∀ k : Nat, ∃ ls : List (List Int), k < len → (∃ Ak ck, w.cell? (a.add k) = some (.slice Ak ls.length ck) ∧ Rows2 w w.heap.size Ak ls ∧ ls.length ≤ ck) ∧ Lsok ls := by
    intro k
    by_cases hk : k < len
    · obtain ⟨h1, h2⟩ := hx k (by omega)
      obtain ⟨y0, n', _, _, h3⟩ := trod_struct1 hst h2
      rw [ho, hk0] at h3
      obtain ⟨Ak, ck, ls, e1', e2, e3, e4, e5⟩ := open_rows2 h0 hce1 he hi hc (show DataW.trod enc P w base sp held n' f0.type [V k] = some y0 from h3)
      simp only [List.cons.injEq, and_true] at e1'
      rw [e1'] at h1
      exact ⟨ls, fun _ => ⟨⟨Ak, ck, h1, e2, e3⟩, by omega, e5⟩⟩
    · exact ⟨[], fun h => absurd h hk⟩
   have hlen : ((List.range len).map fun i => Classical.choose (hex i)).length = len := by rw [List.length_map, List.length_range]
   refine ⟨some a, cap, (List.range len).map fun i => Classical.choose (hex i), by rw [hlen], fun hn => ?_, by rw [hlen]; exact hl, hm, fun l hl => ?_⟩
   · have hpos : 0 < len := by
      rcases Nat.eq_zero_or_pos len with h | h
      · subst h; exact absurd rfl hn
      · exact h
     refine ⟨a, rfl, ?_, fun k l hkl => ?_⟩
     · obtain ⟨Ak, ck, h1, _⟩ := (Classical.choose_spec (hex 0) hpos).1
       have := World.block_lt_of_cell? _ _ h1
       rwa [add_block] at this
     · rw [List.getElem?_map] at hkl
       cases hr : (List.range len)[k]? with
       | none => rw [hr] at hkl; cases hkl
       | some j =>
        obtain ⟨hlt, hij⟩ := List.getElem?_eq_some_iff.1 hr
        rw [List.length_range] at hlt
        rw [List.getElem_range] at hij
        subst hij
        rw [hr] at hkl
        injection hkl with hkl
        rw [← hkl]
        exact (Classical.choose_spec (hex k) hlt).1
   · obtain ⟨i, hi, rfl⟩ := List.mem_map.1 hl
     exact (Classical.choose_spec (hex i) (List.mem_range.1 hi)).2
structure Cs where
 n : List UInt8
 ws : List (List (List Int))
structure CsA where
 x : Cs
 a : Option Addr
 c : Nat
abbrev csv (x : Cs) (A : Option Addr) (c : Nat) : Value := .agg #[txt x.n, .slice A x.ws.length c]
abbrev csc (x : Cs) (A : Option Addr) (c : Nat) : List Value := [txt x.n, .slice A x.ws.length c]
abbrev csvA (x : CsA) : Value := csv x.x x.a x.c
def CsIn (w : World) (x : CsA) : Prop := x.x.n.length ≤ maxLen ∧ Rows3 w w.heap.size x.a x.x.ws ∧ (x.x.ws.length ≤ x.c ∧ x.c ≤ maxLen) ∧ Wsok x.x.ws
theorem Mem.cs {w X : World} {l : Obs} (h : Mem w X l) {B : Nat} {x : Cs} {A : Option Addr} {c : Nat} {t : TypeId} (hm : (B, csc x A c, t) ∈ l) : X.cell? ⟨B, 0, none⟩ = some (txt x.n) ∧ X.cell? ⟨B, 1, none⟩ = some (.slice A x.ws.length c) :=
 ⟨h.cell hm rfl, h.cell hm rfl⟩
section
variable {H : Type} {enc : TypeId × Value → H} {W : World} {base : Nat} {spare : Nat → Bool} {held : Bool} {r : Reach} {b0 : Nat} {v : Value} {d : DataW H} {p : List MemPlace}
end
abbrev enC (o : ClA) : List Value := ccl o.x o.r
theorem enC_len (o : ClA) : (enC o).length = 7 := rfl
section
variable {H : Type} {enc : TypeId × Value → H} {W : World} {base : Nat} {sp : Nat → Bool} {held : Bool}
theorem el_aggN {P : Program} {e : TypeId} {fs : Array Field} (he : P.underlying e = some (.struct fs)) (hone : Go.Deep.oneCellFields P fs = true) {n : Nat} {cs : List Value} {y : DataW H × List MemPlace} (hcl : cs.length = fs.size) (htr : DataW.trod enc P W base sp held n e cs = some y) :
 ∃ n', ∀ (i : Nat) (f : Field), fs[i]? = some f → ∃ vi yi, cs[i]? = some vi ∧ DataW.trod enc P W base sp held n' f.type [vi] = some yi := by
 obtain ⟨ys, n', _, hag, _, hyl, hf⟩ := DataW.trod_struct he htr
 refine ⟨n', fun i f hi => ?_⟩
 obtain ⟨o, k⟩ := Go.Deep.hone_of hone i f hi
 have hil : i < fs.size := (Array.getElem?_eq_some_iff.1 hi).1
 have yi : ys[i]? = some (ys[i]'(by rw [hyl]; exact hil)) := List.getElem?_eq_getElem _
 obtain ⟨v, c, t⟩ := field_one o k (by rw [hcl]; exact hil) ((hf i f hi).trans yi)
 exact ⟨v, _, c, t⟩
set_option maxRecDepth 20000 in
theorem el_class (n : Nat) (cs : List Value) (y : DataW H × List MemPlace) (hcl : cs.length = 7) (htr : DataW.trod enc Tryz.prog W base sp held n 62 cs = some y) : ∃ o : ClA, cs = enC o ∧ ClIn W o := by
 obtain ⟨n', hf⟩ := el_aggN Tryz.underlying62 (by kernel_rfl) hcl htr
 obtain ⟨v0, y0, g0, h0⟩ := hf 0 _ rfl
 obtain ⟨v1, y1, g1, h1⟩ := hf 1 _ rfl
 obtain ⟨v2, y2, g2, h2⟩ := hf 2 _ rfl
 obtain ⟨v3, y3, g3, h3⟩ := hf 3 _ rfl
 obtain ⟨v4, y4, g4, h4⟩ := hf 4 _ rfl
 obtain ⟨v5, y5, g5, h5⟩ := hf 5 _ rfl
 obtain ⟨v6, y6, g6, h6⟩ := hf 6 _ rfl
 obtain ⟨s0, e0, _, k0⟩ := DataW.trod_string Tryz.underlying9 h0
 obtain ⟨z1, e1, _, k1⟩ := DataW.trod_int Tryz.underlying3 h1
 obtain ⟨z2, e2, _, k2⟩ := DataW.trod_int Tryz.underlying49 h2
 obtain ⟨A3, c3, l3, e3, w3, q3, m3, ok3⟩ := open_its1 Tryz.underlying43 Tryz.underlying3 (by kernel_rfl) h3
 obtain ⟨A4, c4, l4, e4, w4, q4, m4, ok4⟩ := open_es enT_len (by decide) (ok := Tok) ⟨⟨0, 0, 0, 0⟩, 0⟩ Tryz.underlying59 (by kernel_rfl)
  (el_time Tryz.underlying122 rfl (by kernel_rfl) rfl (by kernel_rfl) (el_when Tryz.underlying55 (by kernel_rfl) Tryz.underlying53 Tryz.underlying5 Tryz.underlying3 Tryz.underlying3) Tryz.underlying3) h4
 obtain ⟨A5, c5, l5, e5, w5, q5, m5, ok5⟩ := open_es enP_len (by decide) (ok := PlOk) ⟨0, 0⟩ Tryz.underlying60 (by kernel_rfl)
  (el_place Tryz.underlying124 (by kernel_rfl) Tryz.underlying3 Tryz.underlying3) h5
 obtain ⟨z6, e6, _, k6⟩ := DataW.trod_int Tryz.underlying3 h6
 simp only [List.cons.injEq, and_true] at e0 e1 e2 e3 e4 e5 e6
 subst e0; subst e1; subst e2; subst e3; subst e4; subst e5; subst e6
 have b1 := bounds_i64 k1
 have b2 := bounds_u16 k2
 have b6 := bounds_i64 k6
 obtain ⟨n2, rfl⟩ := Int.eq_ofNat_of_zero_le b2.1
 refine ⟨⟨⟨s0.data.toList, z1, n2, l3, l4, l5, z6⟩, ⟨A3, c3, A4, c4, A5, c5⟩⟩, ?_, ⟨by rw [data_len]; exact k0, by show I64 z1; unfold I64; omega, by show n2 < 65536; omega, ok3, ok4, ok5, by show I64 z6; unfold I64; omega⟩, ⟨w3, w4, w5⟩, ⟨q3, m3⟩, ⟨q4, m4⟩, ⟨q5, m5⟩⟩
 have ht : txt s0.data.toList = .string s0 := by unfold txt; rw [of_bs]
 show cs = [txt s0.data.toList, _, _, _, _, _, _]
 rw [ht]
 match cs, hcl, g0, g1, g2, g3, g4, g5, g6 with
 | [u0, u1, u2, u3, u4, u5, u6], _, g0, g1, g2, g3, g4, g5, g6 =>
  have g0 := Option.some.inj (show some u0 = _ from g0)
  have g1 := Option.some.inj (show some u1 = _ from g1)
  have g2 := Option.some.inj (show some u2 = _ from g2)
  have g3 := Option.some.inj (show some u3 = _ from g3)
  have g4 := Option.some.inj (show some u4 = _ from g4)
  have g5 := Option.some.inj (show some u5 = _ from g5)
  have g6 := Option.some.inj (show some u6 = _ from g6)
  rw [g0, g1, g2, g3, g4, g5, g6]
end
end Go.Proofs.YtgmgccepmalahaaGreat
namespace Go.Proofs.YtgmgccepmalahaaGreat
open Go.RowKit
open Whn (Gr Wh)
def nameOk (s : List UInt8) : Bool := decide (1 ≤ s.length) && decide (s.length ≤ 24)
end Go.Proofs.YtgmgccepmalahaaGreat
