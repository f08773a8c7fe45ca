/- Definitions, and small facts of them, out of what follows. The document's own answers for layer 17 (problem): the first of each kind that is wrong. -/
import Derived.Test.YtgmgccepmalahaaGreatPqB
namespace Go.Proofs.YtgmgccepmalahaaGreat
open Go.RowKit
open Whn (Gr Wh)

/-- a field of an element of a row that is read -/
theorem es_fld {α : Type} {en : α → List Value} {K : Nat} (hK : ∀ x, (en x).length = K) {w : World} {B : Nat} {ad : Addr} {l : List α} (h : Es en w B (some ad) l) {k : Nat} {x : α} (hx : l[k]? = some x) (j : Nat) (hj : 0 < j) (v : Value) (hv : (en x)[j]? = some v) :
    w.cell? ⟨(ad.add (k * K)).block, (ad.add (k * K)).off + j, none⟩ = some v := by
  have h1 := es_at hK h hx j v hv
  have e : ad.add (k * K + j) = ⟨(ad.add (k * K)).block, (ad.add (k * K)).off + j, none⟩ := by
    unfold Addr.add
    rw [if_neg (by omega)]
    by_cases h2 : k * K = 0
    · rw [if_pos h2, h2, Nat.zero_add]
    · rw [if_neg h2]
      show (⟨ad.block, ad.off + (k * K + j), none⟩ : Addr) = ⟨ad.block, ad.off + k * K + j, none⟩
      rw [Nat.add_assoc]
  rw [← e]; exact h1
theorem Clw.next2 {w w' : World} {x : Cl} {r : Cw} (h : Clw w w.heap.size x r) (hb : Below w.heap.size w w') : Clw w' w'.heap.size x r := h.next hb
theorem StIn.upto {w w' : World} {x : StA} (h : StIn w x) (hb : Below w.heap.size w w') : StIn w' x := h.next hb
/-- rows of the call's own whose elements are of two types lie apart -/
theorem own_typed {w : World} {b1 b2 e1 e2 s1 s2 n1 n2 : Nat} {v1 v2 : Value} {xs ys : List Value} (h1 : w.ownsRow b1 e1 s1 v1 n1 xs) (h2 : w.ownsRow b2 e2 s2 v2 n2 ys) (he : e1 ≠ e2) : v2.ownBlock = none ∨ v2.ownBlock ≠ v1.ownBlock := by
  rcases h2.2 with ⟨rfl, _⟩ | ⟨g2, c2, cur2, rfl, _, hg2, _⟩
  · exact .inl rfl
  · rcases h1.2 with ⟨rfl, _⟩ | ⟨g1, c1, cur1, rfl, _, hg1, _⟩
    · exact .inr (by intro h; cases h)
    · refine .inr (fun h => he ?_)
      have hg : g2 = g1 := Option.some.inj h
      subst hg
      rw [hg1] at hg2
      injection hg2 with hg2
      injection hg2
theorem Tryz.info_str : (Tryz.prog.info? 9).map (fun i => (i.zero, i.size, i.bytes)) = some (some (.string ⟨#[]⟩), 1, 16) := by kernel_rfl
theorem Tryz.info_bl : (Tryz.prog.info? 4).map (fun i => (i.zero, i.size, i.bytes)) = some (some (.bool false), 1, 1) := by kernel_rfl
theorem ob_one {X : World} {b : Nat} {v : Value} {t : TypeId} (h : Ob X b [v] t) : ∀ (j : Nat) (u : Value), [v][j]? = some u → X.cell? ((⟨b, 0, none⟩ : Addr).add j) = some u := fun j u hu => by
  have h := h.cell (k := j) (v := u) hu
  have e : (⟨b, 0, none⟩ : Addr).add j = ⟨b, j, none⟩ := by unfold Addr.add; split <;> simp_all
  rw [e]; exact h
theorem take_map {α β : Type} (f : α → β) {l : List α} {i : Nat} {y : α} (h : l[i]? = some y) : ((l.map f).take (i + 1)) = (l.map f).take i ++ [f y] := by
  rw [List.take_add_one, List.getElem?_map, h]; rfl
/-- a row of the call's own, of one-cell values, is one that is read -/
theorem own_rdV {w : World} {base e n : Nat} {v : Value} {vs : List Value} (hn : vs.length = n) (h : w.ownsRow base e 1 v n vs) : ∃ A c, v = .slice A n c ∧ Rd w w.heap.size A vs ∧ n ≤ c := by
  rcases h.2 with ⟨rfl, h0⟩ | ⟨g, cap, cur, rfl, hb', hg, hn', _⟩
  · subst h0
    exact ⟨none, 0, rfl, by rw [List.eq_nil_of_length_eq_zero hn]; exact Rd.none_ _ _ _, Nat.le_refl _⟩
  · exact ⟨some ⟨g, 0, none⟩, cap, rfl, fun _ => ⟨_, rfl, (Array.getElem?_eq_some_iff.1 hg).1, fun k u hk => h.cells rfl k u hk⟩, hn'⟩
end Go.Proofs.YtgmgccepmalahaaGreat
