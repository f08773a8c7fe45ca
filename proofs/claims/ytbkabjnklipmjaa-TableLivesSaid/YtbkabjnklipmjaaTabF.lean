/- A law's argument that is a row of what is done (layer 6), as the walk wants it. -/
import Derived.Test.YtbkabjnklipmjaaTabI
import Derived.Deep.Slices
import Derived.Deep.Fields
import Derived.ChangeSame
import Derived.ProofKit
import Derived.SizedLaws
namespace Go.Proofs.Ytbkabjnklipmjaa
open Go.RowKit
open Go.ChangeShapes Go.WideShapes

/-- a row of what is done that came in -/
def IsRowO (w : World) (a : Option Addr) (len cap : Nat) (l : List Opv) : Prop := l.length = len ∧ len ≤ cap ∧ cap ≤ maxLen ∧ Ops w w.heap.size a l ∧ ∀ o ∈ l, I64 o.1 ∧ o.2.1.length ≤ maxLen ∧ o.2.2.length ≤ maxLen
theorem ocells_len (l : List Opv) : (ocells l).length = l.length * 3 := by
  induction l with
  | nil => rfl
  | cons p r ih => rw [ocells_cons, List.length_cons, List.length_cons, List.length_cons, ih, List.length_cons]; omega
/-- three cells an element -/
theorem ocells_read {w : World} {a : Addr} {l : List Opv} (h : ∀ i o, l[i]? = some o → w.cell? (a.add (i * 3)) = some (.int .i64 o.1) ∧ w.cell? (a.add (i * 3 + 1)) = some (txt o.2.1) ∧ w.cell? (a.add (i * 3 + 2)) = some (txt o.2.2)) :
    ∀ k v, (ocells l)[k]? = some v → w.cell? (a.add k) = some v := by
  intro k v hk
  have hlt : k < l.length * 3 := by rw [← ocells_len]; exact (List.getElem?_eq_some_iff.1 hk).1
  have hi : k / 3 < l.length := by omega
  have ho := List.getElem?_eq_getElem hi
  obtain ⟨g0, g1, g2⟩ := ocells_get l (k / 3) _ ho
  obtain ⟨h0, h1, h2⟩ := h (k / 3) _ ho
  have hc : k % 3 = 0 ∨ k % 3 = 1 ∨ k % 3 = 2 := by omega
  rcases hc with e | e | e
  · have e2 : k / 3 * 3 = k := by omega
    rw [e2] at g0 h0
    rw [h0, ← g0, hk]
  · have e2 : k / 3 * 3 + 1 = k := by omega
    rw [e2] at g1 h1
    rw [h1, ← g1, hk]
  · have e2 : k / 3 * 3 + 2 = k := by omega
    rw [e2] at g2 h2
    rw [h2, ← g2, hk]
/-- a field of one cell, read by itself -/
theorem field_one {H : Type} {enc : TypeId × Value → H} {P : Program} {w : World} {base : Nat} {sp : Nat → Bool} {held : Bool} {n : Nat} {f : Field} {cs : List Value} {j : Nat} {y : Option (DataW H × List MemPlace)} (ho : f.offset = j) (hk : P.cellsOf f.type = 1) (hj : j < cs.length)
    (h : DataW.trod enc P w base sp held n f.type ((cs.drop f.offset).take (P.cellsOf f.type)) = y) : ∃ v, cs[j]? = some v ∧ DataW.trod enc P w base sp held n f.type [v] = y := by
  refine ⟨cs[j], List.getElem?_eq_getElem hj, ?_⟩
  rw [ho, hk, List.drop_eq_getElem_cons hj] at h
  exact h
theorem weightsAll_mem {H : Type} {P : Program} {e : TypeId} {d : DataW H} {n : Nat} (hn : n ∈ d.weights P e) : ∀ {ds : List (DataW H)}, d ∈ ds → n ∈ DataW.weightsAll P e ds
  | d0 :: r, hd => by
    simp only [DataW.weightsAll, List.mem_append]
    rcases List.mem_cons.1 hd with rfl | h
    · exact .inl hn
    · exact .inr (weightsAll_mem hn h)
/-- with what the reading's weights tell of the texts -/
theorem open_ops_w {H : Type} {enc : TypeId × Value → H} {P : Program} {w : World} {base : Nat} {sp : Nat → Bool} {held : Bool} {t e : TypeId} {f0 f1 f2 : Field} {fuel : Nat} {a0 : Option Addr} {len cap : Nat} {x : DataW H × List MemPlace}
    (ht : P.underlying t = some (.slice e)) (he : P.underlying e = some (.struct #[f0, f1, f2])) (hone : Go.Deep.oneCellFields P #[f0, f1, f2] = true) (hC : P.cellsOf e = 3)
    (h0 : P.underlying f0.type = some (.int .i64)) (h1 : P.underlying f1.type = some .string) (h2 : P.underlying f2.type = some .string)
    (h : DataW.trod enc P w base sp held fuel t [.slice a0 len cap] = some x) (Wt : Nat → Prop) (hz : ∀ n ∈ x.1.weights P t, Wt n) : ∃ l, IsRowO w a0 len cap l ∧ ∀ o ∈ l, Wt o.2.1.length ∧ Wt o.2.2.length := by
  rcases Go.Deep.open_slice ht h with ⟨hcs, _⟩ | ⟨a, len', cap', m, n, D, Pl, hcs, _, hl, hm, hmm, hx, hi⟩
  · simp at hcs
    obtain ⟨rfl, rfl, rfl⟩ := hcs
    exact ⟨[], ⟨rfl, Nat.le_refl _, Nat.zero_le _, Rd.none_ _ _ _, fun _ h => by cases h⟩, fun _ h => by cases h⟩
  · simp at hcs
    obtain ⟨rfl, rfl, rfl⟩ := hcs
    have hlm : len ≤ m := by rw [hmm]; split <;> omega
    have hex : ∀ i : Nat, ∃ o : Opv, i < len → (w.cell? (a.add (i * 3)) = some (.int .i64 o.1) ∧ w.cell? (a.add (i * 3 + 1)) = some (txt o.2.1) ∧ w.cell? (a.add (i * 3 + 2)) = some (txt o.2.2)) ∧ (I64 o.1 ∧ o.2.1.length ≤ maxLen ∧ o.2.2.length ≤ maxLen) ∧ Wt o.2.1.length ∧ Wt o.2.2.length := by
      intro i
      by_cases hil : i < len
      · obtain ⟨cs', hc, htr⟩ := hi i (by omega)
        rw [hC] at hc
        obtain ⟨_, hcl, hat⟩ := World.cells?_some hc
        obtain ⟨ys, n', _, hag, _, hyl, hf⟩ := DataW.trod_struct he htr
        obtain ⟨o0, k0⟩ := Go.Deep.hone_of hone 0 f0 rfl
        obtain ⟨o1, k1⟩ := Go.Deep.hone_of hone 1 f1 rfl
        obtain ⟨o2, k2⟩ := Go.Deep.hone_of hone 2 f2 rfl
        have y0 : ys[0]? = some (ys[0]'(by rw [hyl]; simp)) := List.getElem?_eq_getElem _
        have y1 : ys[1]? = some (ys[1]'(by rw [hyl]; simp)) := List.getElem?_eq_getElem _
        have y2 : ys[2]? = some (ys[2]'(by rw [hyl]; simp)) := List.getElem?_eq_getElem _
        obtain ⟨v0, c0, t0⟩ := field_one o0 k0 (by omega) ((hf 0 f0 rfl).trans y0)
        obtain ⟨v1, c1, t1⟩ := field_one o1 k1 (by omega) ((hf 1 f1 rfl).trans y1)
        obtain ⟨v2, c2, t2⟩ := field_one o2 k2 (by omega) ((hf 2 f2 rfl).trans y2)
        obtain ⟨z, e0, _, hz0⟩ := DataW.trod_int h0 t0
        obtain ⟨s1, e1, x1, hs1⟩ := DataW.trod_string h1 t1
        obtain ⟨s2, e2, x2, hs2⟩ := DataW.trod_string h2 t2
        have hDi : D i = .agg (ys.map (·.1)) := congrArg Prod.fst hag
        have hW : ∀ n ∈ (D i).weights P e, Wt n := fun n hn => hz n (by
          rw [hx]
          simp only [DataW.weights, ht, List.mem_cons, List.mem_append]
          exact .inr (.inl (weightsAll_mem hn (List.mem_map.2 ⟨i, List.mem_range.2 hil, rfl⟩))))
        have hWj : ∀ (j : Nat) (s : ByteArray) (f : Field), (#[f0, f1, f2] : Array Field)[j]? = some f → ys[j]? = some (.lit (.string s.data.toList), []) → Wt s.data.toList.length := fun j s f hf hy => hW _ (by
          rw [hDi]
          simp only [DataW.weights, he]
          refine DataW.weights_mem_each (j := j) (t := f.type) (d := .lit (.string s.data.toList)) ?_ ?_ _ (by simp [DataW.weights])
          · rw [List.getElem?_map, show (#[f0, f1, f2] : Array Field).toList[j]? = some f by simpa using hf]; rfl
          · rw [List.getElem?_map, hy]; rfl)
        have w1 := hWj 1 s1 f1 rfl (y1.trans (by rw [x1]))
        have w2 := hWj 2 s2 f2 rfl (y2.trans (by rw [x2]))
        simp only [List.cons.injEq, and_true] at e0 e1 e2
        subst e0; subst e1; subst e2
        refine ⟨(z, s1.data.toList, s2.data.toList), fun _ => ⟨⟨?_, ?_, ?_⟩, ⟨?_, by rw [data_len]; exact hs1, by rw [data_len]; exact hs2⟩, w1, w2⟩⟩
        · have := hat 0 (by omega)
          rw [Addr.add_add, c0] at this
          simpa using this
        · have := hat 1 (by omega)
          rw [Addr.add_add, c1] at this
          rw [this]; show _ = some (txt s1.data.toList); unfold txt; rw [of_bs]
        · have := hat 2 (by omega)
          rw [Addr.add_add, c2] at this
          rw [this]; show _ = some (txt s2.data.toList); unfold txt; rw [of_bs]
        · have := bounds_i64 hz0
          unfold I64
          omega
      · exact ⟨(0, [], []), fun h => absurd h hil⟩
    refine ⟨(List.range len).map fun i => Classical.choose (hex i), ⟨by rw [List.length_map, List.length_range], hl, hm, fun hn => ?_, fun o ho => ?_⟩, fun o ho => ?_⟩
    · have hpos : 0 < len := by
        rcases Nat.eq_zero_or_pos len with h | h
        · subst h; exact absurd rfl hn
        · exact h
      refine ⟨a, rfl, ?_, ocells_read fun i o hio => ?_⟩
      · have := (Classical.choose_spec (hex 0) hpos).1.1
        have := World.block_lt_of_cell? _ _ this
        rwa [add_block] at this
      · rw [List.getElem?_map] at hio
        cases hr : (List.range len)[i]? with
        | none => rw [hr] at hio; cases hio
        | some j =>
          obtain ⟨hlt, hij⟩ := List.getElem?_eq_some_iff.1 hr
          rw [List.length_range] at hlt
          rw [List.getElem_range] at hij
          subst hij
          rw [hr] at hio
          injection hio with hio
          rw [← hio]
          exact (Classical.choose_spec (hex i) hlt).1
    · obtain ⟨i, hi, rfl⟩ := List.mem_map.1 ho
      exact (Classical.choose_spec (hex i) (List.mem_range.1 hi)).2.1
    · obtain ⟨i, hi, rfl⟩ := List.mem_map.1 ho
      exact (Classical.choose_spec (hex i) (List.mem_range.1 hi)).2.2
theorem open_ops {H : Type} {enc : TypeId × Value → H} {P : Program} {w : World} {base : Nat} {sp : Nat → Bool} {held : Bool} {t e : TypeId} {f0 f1 f2 : Field} {fuel : Nat} {a0 : Option Addr} {len cap : Nat} {x : DataW H × List MemPlace}
    (ht : P.underlying t = some (.slice e)) (he : P.underlying e = some (.struct #[f0, f1, f2])) (hone : Go.Deep.oneCellFields P #[f0, f1, f2] = true) (hC : P.cellsOf e = 3)
    (h0 : P.underlying f0.type = some (.int .i64)) (h1 : P.underlying f1.type = some .string) (h2 : P.underlying f2.type = some .string)
    (h : DataW.trod enc P w base sp held fuel t [.slice a0 len cap] = some x) : ∃ l, IsRowO w a0 len cap l := by
  obtain ⟨l, hl, _⟩ := open_ops_w ht he hone hC h0 h1 h2 h (fun _ => True) (fun _ _ => trivial)
  exact ⟨l, hl⟩
end Go.Proofs.Ytbkabjnklipmjaa
