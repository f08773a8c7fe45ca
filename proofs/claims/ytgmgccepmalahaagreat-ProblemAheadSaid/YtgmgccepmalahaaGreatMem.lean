/- Structs in memory, each in a block of its own; what a call hands out that leaves what there was. No program's function is spoken of here. -/
import Derived.Test.YtgmgccepmalahaaGreatRow
import Derived.BigRegion
import Derived.Lib.SmallJoins
namespace Go.Proofs.YtgmgccepmalahaaGreat
open Go.RowKit

/-- hands this out; what there was is as it was -/
def Did (v : Value) (w : World) (e : Ending) (w' : World) : Prop := e = .returned v ∧ Below w.heap.size w w'
theorem Did.mk {v v' : Value} {w w' : World} (h : v' = v) (hb : Below w.heap.size w w') : Did v w (.returned v') w' := by subst h; exact ⟨rfl, hb⟩
/-- a struct in memory -/
def Ob (w : World) (B : Nat) (cs : List Value) (t : TypeId) : Prop := w.heap[B]? = some (.cells cs.toArray t)
section
variable {w w' : World} {B : Nat} {cs : List Value} {t : TypeId}
theorem Ob.cell (h : Ob w B cs t) {k : Nat} {v : Value} (hv : cs[k]? = some v) : w.cell? ⟨B, k, none⟩ = some v := by unfold Ob at h; simp [World.cell?, h, hv]
theorem Ob.free (h : Ob w B cs t) (k : Nat) : w.frozen? ⟨B, k, none⟩ = false := by unfold Ob at h; simp [World.frozen?, h]
theorem Ob.lt (h : Ob w B cs t) : B < w.heap.size := (Array.getElem?_eq_some_iff.1 h).1
theorem Ob.below {C : Nat} (h : Ob w B cs t) (hb : Below C w w') (hB : B < C) : Ob w' B cs t := (hb.block B hB).trans h
theorem Ob.next (h : Ob w B cs t) (hb : Below w.heap.size w w') : Ob w' B cs t := h.below hb h.lt
theorem Ob.other (h : Ob w B cs t) {p : Addr} (hp : p.block ≠ B) (v : Value) : Ob (w.setCell p v) B cs t := by
  obtain ⟨hq, e⟩ := Array.getElem?_eq_some_iff.1 h
  unfold Ob
  rw [← e]
  simp [World.setCell, hq, Array.getElem_modify, hp]
theorem Ob.set (h : Ob w B cs t) (k : Nat) (v : Value) : Ob (w.setCell ⟨B, k, none⟩ v) B (cs.set k v) t := by
  obtain ⟨hq, e⟩ := Array.getElem?_eq_some_iff.1 h
  simp [Ob, World.setCell, hq, Array.getElem_modify_self, e]
theorem Ob.new (w : World) (cs : List Value) (t : TypeId) : Ob (w.alloc (.cells cs.toArray t)) w.heap.size cs t := heap_alloc_new w _
end
/-- so many structs in memory as one fact; what there was is as it was -/
abbrev Obs := List (Nat × List Value × TypeId)
def Mem (w X : World) (l : Obs) : Prop := (∀ p ∈ l, Ob X p.1 p.2.1 p.2.2) ∧ Below w.heap.size w X
section
variable {w X X' : World} {l : Obs}
theorem Mem.nil (w : World) : Mem w w [] := ⟨fun p hp => (by cases hp), Below.refl _ _⟩
theorem Mem.next (h : Mem w X l) (hb : Below X.heap.size X X') : Mem w X' l := ⟨fun p hp => (h.1 p hp).next hb, h.2.trans (hb.mono h.2.size)⟩
theorem Mem.drew (h : Mem w X l) : Mem w X.drew l := ⟨h.1, h.2.drew⟩
theorem Mem.drewN (h : Mem w X l) (n : Nat) : Mem w (X.drewN n) l := ⟨h.1, below_drewN h.2 n⟩
theorem Mem.one (h : Mem w X l) (cs : List Value) (t : TypeId) : ∃ b W, X.heap.size = b ∧ X.alloc (.cells cs.toArray t) = W ∧ Hid (Mem w W ((b, cs, t) :: l)) ∧ Below X.heap.size X W := by
  have hb := below_alloc X (.cells cs.toArray t)
  refine ⟨_, _, rfl, rfl, hid ⟨fun p hp => ?_, (h.next hb).2⟩, hb⟩
  rcases List.mem_cons.1 hp with rfl | hp
  · exact Ob.new X cs t
  · exact (h.next hb).1 p hp
theorem Mem.at_ (h : Mem w X l) {b : Nat} {cs : List Value} {t : TypeId} (hm : (b, cs, t) ∈ l) : Ob X b cs t := h.1 _ hm
theorem Mem.cell (h : Mem w X l) {b : Nat} {cs : List Value} {t : TypeId} (hm : (b, cs, t) ∈ l) {k : Nat} {v : Value} (hv : cs[k]? = some v) : X.cell? ⟨b, k, none⟩ = some v := (h.1 _ hm).cell hv
end
theorem Mem.sub {w X : World} {l l' : Obs} (h : Mem w X l) (hs : ∀ p ∈ l', p ∈ l) : Mem w X l' := ⟨fun p hp => h.1 p (hs p hp), h.2⟩
theorem Mem.set {w X : World} {l : Obs} {D : Nat} {cs : List Value} {t : TypeId} (h : Mem w X ((D, cs, t) :: l)) (hD : w.heap.size ≤ D) (hne : ∀ p ∈ l, p.1 ≠ D) (k : Nat) (v : Value) : Mem w (X.setCell ⟨D, k, none⟩ v) ((D, cs.set k v, t) :: l) := by
  refine ⟨fun p hp => ?_, h.2.setCell hD v⟩
  rcases List.mem_cons.1 hp with rfl | hp
  · exact (h.at_ (List.mem_cons_self ..)).set k v
  · exact (h.1 p (List.mem_cons_of_mem _ hp)).other (fun e => hne p hp e.symm) v
theorem its_next {X X' : World} {A : Option Addr} {L : List Int} (h : Its X X.heap.size A L) (hb : Below X.heap.size X X') : Its X' X'.heap.size A L := (h.below hb (Nat.le_refl _)).more hb.size
/-- a row of the call's own, where what lies below a block is as it was -/
theorem own_upto {w w' : World} {base : Nat} {e : TypeId} {size : Nat} {v : Value} {n : Nat} {xs : List Value} (h : w.ownsRow base e size v n xs) {C : Nat} (hb : Below C w w') (hC : ∀ k, v.ownBlock = some k → k < C) : w'.ownsRow base e size v n xs := by
  obtain ⟨h1, h2⟩ := h
  refine ⟨h1, ?_⟩
  rcases h2 with h | ⟨g, cap, cur, rfl, hbg, hg, r⟩
  · exact .inl h
  · exact .inr ⟨g, cap, cur, rfl, hbg, (hb.block g (hC g rfl)).trans hg, r⟩
end Go.Proofs.YtgmgccepmalahaaGreat
