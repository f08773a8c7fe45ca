/- Rows of structs of any width: how they are read, how they come in, and rows of the call's own. No program's function is spoken of here. -/
import Derived.Test.YtjjmajhldpoobaaMem
import Derived.Test.YtjjmajhldpoobaaRowN
namespace Go.Proofs.Ytjjmajhldpoobaa
open Go.RowKit Go.ChangeShapes Go.WideShapes

section
variable {α : Type}
/-- the cells of a row whose elements lie as 'en' says -/
def ecells (en : α → List Value) (l : List α) : List Value := l.flatMap en
theorem ecells_cons (en : α → List Value) (x : α) (r : List α) : ecells en (x :: r) = en x ++ ecells en r := rfl
theorem ecells_append (en : α → List Value) (a b : List α) : ecells en (a ++ b) = ecells en a ++ ecells en b := by unfold ecells; rw [List.flatMap_append]
theorem ecells_snoc (en : α → List Value) (a : List α) (x : α) : ecells en (a ++ [x]) = ecells en a ++ en x := by rw [ecells_append, ecells_cons]; show ecells en a ++ (en x ++ []) = _; rw [List.append_nil]
theorem ecells_len {en : α → List Value} {K : Nat} (hK : ∀ x, (en x).length = K) (l : List α) : (ecells en l).length = l.length * K := by
  induction l with
  | nil => rw [List.length_nil, Nat.zero_mul]; rfl
  | cons x r ih => rw [ecells_cons, List.length_append, hK, ih, List.length_cons, Nat.succ_mul, Nat.add_comm]
theorem ecells_get {en : α → List Value} {K : Nat} (hK : ∀ x, (en x).length = K) (l : List α) (k : Nat) (x : α) (h : l[k]? = some x) (j : Nat) (hj : j < K) : (ecells en l)[k * K + j]? = (en x)[j]? := by
  induction l generalizing k with
  | nil => cases h
  | cons y r ih =>
    rw [ecells_cons]
    cases k with
    | zero =>
      rw [List.getElem?_cons_zero] at h
      injection h with h
      subst h
      rw [Nat.zero_mul, Nat.zero_add, List.getElem?_append_left (by rw [hK]; exact hj)]
    | succ k =>
      rw [List.getElem?_cons_succ] at h
      rw [List.getElem?_append_right (by rw [hK, Nat.succ_mul]; omega), hK, Nat.succ_mul, show k * K + K + j - K = k * K + j by omega]
      exact ih k h
theorem ecells_ne {en : α → List Value} {K : Nat} (hK : ∀ x, (en x).length = K) (h0 : 0 < K) {l : List α} (h : l ≠ []) : ecells en l ≠ [] := fun e => by
  have := ecells_len hK l
  rw [e, List.length_nil] at this
  rcases Nat.eq_zero_or_pos l.length with hl | hl
  · exact h (List.eq_nil_of_length_eq_zero hl)
  · have := Nat.mul_le_mul hl h0; omega
/-- a row that is read -/
abbrev Es (en : α → List Value) (w : World) (B : Nat) (A : Option Addr) (l : List α) : Prop := Rd w B A (ecells en l)
theorem Es.get {en : α → List Value} {K : Nat} (hK : ∀ x, (en x).length = K) (h0 : 0 < K) {w : World} {B : Nat} {A : Option Addr} {l : List α} (h : Es en w B A l) {k : Nat} (hk : k < l.length) :
    ∃ ad x, A = some ad ∧ ad.block < B ∧ Hid (l[k]? = some x) ∧ x ∈ l ∧ ∀ j v, (en x)[j]? = some v → w.cell? (ad.add (k * K + j)) = some v := by
  obtain ⟨ad, e, hb, hc⟩ := h (ecells_ne hK h0 (fun e => by rw [e] at hk; exact absurd hk (Nat.not_lt_zero k)))
  refine ⟨ad, l[k], e, hb, List.getElem?_eq_getElem hk, List.getElem_mem hk, fun j v hv => hc _ _ ?_⟩
  rw [ecells_get hK l k l[k] (List.getElem?_eq_getElem hk) j (by have := (List.getElem?_eq_some_iff.1 hv).1; rw [hK] at this; exact this)]
  exact hv
theorem es_at {en : α → List Value} {K : Nat} (hK : ∀ x, (en x).length = K) {w : World} {B : Nat} {ad : Addr} {l : List α} (h : Es en w B (some ad) l) {k : Nat} {x : α} (hx : l[k]? = some x) (j : Nat) (v : Value) (hv : (en x)[j]? = some v) :
    w.cell? (ad.add (k * K + j)) = some v := by
  have hjK : j < K := by have := (List.getElem?_eq_some_iff.1 hv).1; rw [hK] at this; exact this
  have hne : l ≠ [] := fun e => by rw [e] at hx; cases hx
  obtain ⟨ad', e, _, hc⟩ := h (ecells_ne hK (by omega) hne)
  injection e with e
  subst e
  exact hc _ _ ((ecells_get hK l k x hx j hjK).trans hv)
theorem ecells_read {en : α → List Value} {K : Nat} (hK : ∀ x, (en x).length = K) (h0 : 0 < K) {w : World} {a : Addr} {l : List α} (h : ∀ i x, l[i]? = some x → ∀ j v, (en x)[j]? = some v → w.cell? (a.add (i * K + j)) = some v) :
    ∀ k v, (ecells en l)[k]? = some v → w.cell? (a.add k) = some v := by
  intro k v hk
  have hlt : k < l.length * K := by rw [← ecells_len hK]; exact (List.getElem?_eq_some_iff.1 hk).1
  have hi : k / K < l.length := Nat.div_lt_of_lt_mul (by rw [Nat.mul_comm]; exact hlt)
  have ho := List.getElem?_eq_getElem hi
  have hm : k % K < K := Nat.mod_lt _ h0
  have e : k / K * K + k % K = k := by rw [Nat.mul_comm]; exact Nat.div_add_mod k K
  have hg := ecells_get hK l (k / K) _ ho (k % K) hm
  rw [e, hk] at hg
  have := h (k / K) _ ho (k % K) v hg.symm
  rwa [e] at this
/-- a row that came in: each element by what its cells are -/
theorem open_es {en : α → List Value} {K : Nat} (hK : ∀ x, (en x).length = K) (h0 : 0 < K) {ok : α → Prop} (dflt : α) {H : Type} {enc : TypeId × Value → H} {P : Program} {w : World} {base : Nat} {sp : Nat → Bool} {held : Bool} {t e : TypeId} {fuel : Nat} {cs : List Value} {x : DataW H × List MemPlace}
    (ht : P.underlying t = some (.slice e)) (hC : P.cellsOf e = K)
    (hel : ∀ (n : Nat) (cs' : List Value) (y : DataW H × List MemPlace), cs'.length = K → DataW.trod enc P w base sp held n e cs' = some y → ∃ o, cs' = en o ∧ ok o)
    (h : DataW.trod enc P w base sp held fuel t cs = some x) : ∃ A c, ∃ l : List α, cs = [.slice A l.length c] ∧ Es en w w.heap.size A l ∧ l.length ≤ c ∧ c ≤ maxLen ∧ ∀ y ∈ l, ok y := by
  rcases Go.Deep.open_slice ht h with ⟨rfl, _⟩ | ⟨a, len, cap, m, n, D, Pl, rfl, _, hl, hm, hmm, hx, hi⟩
  · exact ⟨none, 0, [], rfl, Rd.none_ _ _ _, Nat.le_refl _, Nat.zero_le _, fun _ h => by cases h⟩
  · have hlm : len ≤ m := by rw [hmm]; split <;> omega
    have hex : ∀ i : Nat, ∃ o : α, i < len → (∀ j v, (en o)[j]? = some v → w.cell? (a.add (i * K + j)) = some v) ∧ ok o := by
      intro i
      by_cases hil : i < len
      · obtain ⟨cs', hc, htr⟩ := hi i (by omega)
        rw [hC] at hc
        obtain ⟨_, hcl, hat⟩ := World.cells?_some hc
        obtain ⟨o, rfl, hok⟩ := hel _ _ _ hcl htr
        refine ⟨o, fun _ => ⟨fun j v hv => ?_, hok⟩⟩
        have hjK : j < K := by have := (List.getElem?_eq_some_iff.1 hv).1; rw [hK] at this; exact this
        have := hat j hjK
        rw [Addr.add_add, hv] at this
        exact this
      · exact ⟨dflt, fun h => absurd h hil⟩
    have hlen : ((List.range len).map fun i => Classical.choose (hex i)).length = len := by rw [List.length_map, List.length_range]
    refine ⟨some a, cap, (List.range len).map fun i => Classical.choose (hex i), by rw [hlen], fun hn => ?_, by rw [hlen]; exact hl, hm, fun o ho => ?_⟩
    · have hpos : 0 < len := by
        rcases Nat.eq_zero_or_pos len with h | h
        · subst h; exact absurd rfl hn
        · exact h
      refine ⟨a, rfl, ?_, ecells_read hK h0 fun i o hio => ?_⟩
      · have hv : (en (Classical.choose (hex 0)))[0]? = some ((en (Classical.choose (hex 0)))[0]'(by rw [hK]; exact h0)) := List.getElem?_eq_getElem _
        have := (Classical.choose_spec (hex 0) hpos).1 0 _ hv
        have := World.block_lt_of_cell? _ _ this
        rwa [add_block] at this
      · rw [List.getElem?_map] at hio
        cases hr : (List.range len)[i]? with
        | none => rw [hr] at hio; cases hio
        | some j =>
          obtain ⟨hlt, hij⟩ := List.getElem?_eq_some_iff.1 hr
          rw [List.length_range] at hlt
          rw [List.getElem_range] at hij
          subst hij
          rw [hr] at hio
          injection hio with hio
          rw [← hio]
          exact (Classical.choose_spec (hex i) hlt).1
    · obtain ⟨i, hi, rfl⟩ := List.mem_map.1 ho
      exact (Classical.choose_spec (hex i) (List.mem_range.1 hi)).2
/-- a row of the call's own is one that is read -/
theorem own_es {en : α → List Value} {w : World} {base K : Nat} {e : TypeId} {v : Value} {l : List α} (h : w.ownsRow base e K v l.length (ecells en l)) : ∃ A c, v = .slice A l.length c ∧ Es en w w.heap.size A l ∧ l.length ≤ c := by
  rcases h.2 with ⟨rfl, h0⟩ | ⟨g, cap, cur, rfl, hb', hg, hn, _⟩
  · have h1 : l = [] := List.eq_nil_of_length_eq_zero h0
    subst h1
    exact ⟨none, 0, rfl, Rd.none_ _ _ _, Nat.le_refl _⟩
  · exact ⟨some ⟨g, 0, none⟩, cap, rfl, fun _ => ⟨_, rfl, (Array.getElem?_eq_some_iff.1 hg).1, fun k u hk => h.cells rfl k u hk⟩, hn⟩
end
end Go.Proofs.Ytjjmajhldpoobaa
