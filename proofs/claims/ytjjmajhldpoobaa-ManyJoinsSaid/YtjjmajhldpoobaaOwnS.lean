/- Rows of the call's own: what Busy's walk wants of them. -/
import Derived.Test.YtjjmajhldpoobaaRomA
import Derived.Test.YtjjmajhldpoobaaRomJ
import Derived.Test.YtjjmajhldpoobaaWh2
import Derived.Test.YtjjmajhldpoobaaPerM
namespace Go.Proofs.Ytjjmajhldpoobaa
open Go.RowKit
open Whn (Gr Wh)

theorem own_whs {w : World} {base : Nat} {v : Value} {l : List Wh} (h : w.ownsRow base 48 4 v l.length (wcells l)) : ∃ A c, v = .slice A l.length c ∧ Whs w w.heap.size A l ∧ l.length ≤ c := by
  rcases h.2 with ⟨rfl, h0⟩ | ⟨g, cap, cur, rfl, hb', hg, hn, _⟩
  · have h1 : l = [] := List.eq_nil_of_length_eq_zero h0
    subst h1
    exact ⟨none, 0, rfl, Rd.none_ _ _ _, Nat.le_refl _⟩
  · exact ⟨some ⟨g, 0, none⟩, cap, rfl, fun _ => ⟨_, rfl, (Array.getElem?_eq_some_iff.1 hg).1, fun k l hk => h.cells rfl k _ hk⟩, hn⟩
theorem own_set {w : World} {base : Nat} {e : TypeId} {size : Nat} {v : Value} {n : Nat} {xs : List Value} (h : w.ownsRow base e size v n xs) {p : Addr} (hp : p.block < base) (u : Value) : (w.setCell p u).ownsRow base e size v n xs := by
  obtain ⟨h1, h2⟩ := h
  refine ⟨h1, ?_⟩
  rcases h2 with h | ⟨g, cap, cur, rfl, hbg, hg, r⟩
  · exact .inl h
  · refine .inr ⟨g, cap, cur, rfl, hbg, ?_, r⟩
    obtain ⟨hq, e⟩ := Array.getElem?_eq_some_iff.1 hg
    rw [← e]
    simp [World.setCell, hq, Array.getElem_modify, show p.block ≠ g by omega]
/-- a full row of the call's own is a struct in memory -/
theorem ob_of_full {w : World} {base g N : Nat} {e : TypeId} {xs : List Value} (h : w.ownsRow base e 1 (.slice (some ⟨g, 0, none⟩) N N) N xs) : Ob w g xs e := by
  rcases h.2 with ⟨hv, _⟩ | ⟨g1, cap, cur, hv, _, hg, _, _, hcs, htake⟩
  · injection hv with h1; cases h1
  injection hv with h1 _ h3
  injection h1 with h1
  injection h1 with h1
  subst h1
  subst h3
  unfold Ob
  rw [hg, ← htake, List.take_of_length_le (by rw [Array.length_toList, hcs]; exact Nat.le_refl _)]
/-- the times of a row that may be, sorted: a row of the call's own -/
def StRet (g : Gr) (l : List Wh) (w : World) (e : Ending) (w' : World) : Prop := ∃ v rs, e = .returned v ∧ rs.Perm (l.filter (Whn.right g)) ∧ Whn.RisS rs ∧ w'.ownsRow w.heap.size 48 4 v rs.length (wcells rs) ∧ Below w.heap.size w w'
/-- what is asked of many's own byStart -/
def BySt : Prop := ∀ (g : Gr) (l : List Wh) (A : Option Addr) (c : Nat) (w : World), (∀ y ∈ l, Wok y) → l.length ≤ 10000 → Whs w w.heap.size A l → Calls Try.prog 33 #[gv g, .slice A l.length c] w (StRet g l w)
end Go.Proofs.Ytjjmajhldpoobaa
