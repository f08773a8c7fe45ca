/- What a pile is in memory (layer 7): a pointer to items, or none. -/
import Derived.Test.YtojballaghkojaaHepH
namespace Go.Proofs.Ytojballaghkojaa
open Go.RowKit Go.Shelf
open Pil (It)

theorem own_keep {w w' : World} {base : Nat} {e : TypeId} {size : Nat} {v : Value} {n : Nat} {xs : List Value} (h : w.ownsRow base e size v n xs) (hk : ∀ k, v.ownBlock = some k → w'.heap[k]? = w.heap[k]?) : w'.ownsRow base e size v n xs := by
  obtain ⟨h1, h2⟩ := h
  refine ⟨h1, ?_⟩
  rcases h2 with h | ⟨g, cap, cur, rfl, hb, hg, r⟩
  · exact .inl h
  · exact .inr ⟨g, cap, cur, rfl, hb, (hk g rfl).trans hg, r⟩
theorem Sv.keep {w w' : World} {q bm : Nat} {v : Value} {l : List It} (h : Sv w q v bm l) (hq : w'.heap[q]? = w.heap[q]?) (hb : w'.heap[bm]? = w.heap[bm]?) (hv : ∀ k, v.ownBlock = some k → w'.heap[k]? = w.heap[k]?) : Sv w' q v bm l :=
  ⟨hq.trans h.hd, own_keep h.row hv, h.map.keep hb, h.qv, h.qb, h.i64, h.nd, h.len⟩
/-- block p is a pile whose items are at q -/
structure Pq (w : World) (p q : Nat) (v : Value) (bm : Nat) (l : List It) : Prop where
  hp : w.heap[p]? = some (.cells #[ptr q] 48)
  sv : Sv w q v bm l
  ok : Hep.Ok l
  pq : p ≠ q
  pb : p ≠ bm
  pv : v.ownBlock ≠ some p
/-- block p is a pile of these keys with their ranks; all that it is lies in the blocks of F -/
def Pl (w : World) (F : Nat → Prop) (p : Nat) (s : List It) : Prop :=
  Pil.Srt s ∧ (∀ k, F k → k < w.heap.size) ∧ F p ∧
  ((s = [] ∧ w.heap[p]? = some (.cells #[.pointer none] 48)) ∨
   ∃ q v bm l, Pq w p q v bm l ∧ l.Perm s ∧ F q ∧ F bm ∧ ∀ k, v.ownBlock = some k → F k)
theorem Pl.lt {w : World} {F : Nat → Prop} {p : Nat} {s : List It} (h : Pl w F p s) : ∀ k, F k → k < w.heap.size := h.2.1
theorem Pl.srt {w : World} {F : Nat → Prop} {p : Nat} {s : List It} (h : Pl w F p s) : Pil.Srt s := h.1
theorem Pl.i64 {w : World} {F : Nat → Prop} {p : Nat} {s : List It} (h : Pl w F p s) : ∀ x ∈ s, I64 x.1 ∧ I64 x.2 := by
  rcases h.2.2.2 with ⟨rfl, _⟩ | ⟨q, v, bm, l, hq, hs, _⟩
  · intro x hx; cases hx
  · exact fun x hx => hq.sv.i64 x (hs.mem_iff.2 hx)
theorem Pl.keep {w w' : World} {F : Nat → Prop} {p : Nat} {s : List It} (h : Pl w F p s) (hk : ∀ k, F k → w'.heap[k]? = w.heap[k]?) : Pl w' F p s := by
  obtain ⟨h1, h2, h3, h4⟩ := h
  refine ⟨h1, fun k hf => ?_, h3, ?_⟩
  · have := hk k hf
    rw [Array.getElem?_eq_getElem (h2 k hf)] at this
    exact (Array.getElem?_eq_some_iff.1 this).1
  · rcases h4 with ⟨h5, h6⟩ | ⟨q, v, bm, l, hq, hs, f1, f2, f3⟩
    · exact .inl ⟨h5, (hk p h3).trans h6⟩
    · exact .inr ⟨q, v, bm, l, ⟨(hk p h3).trans hq.hp, hq.sv.keep (hk q f1) (hk bm f2) (fun k hv => hk k (f3 k hv)), hq.ok, hq.pq, hq.pb, hq.pv⟩, hs, f1, f2, f3⟩
/-- a changed pile -/
def PlTo (F : Nat → Prop) (p : Nat) (s : List It) (w w' : World) : Prop := (∃ F', Pl w' F' p s ∧ ∀ k, F' k → F k ∨ w.heap.size ≤ k) ∧ Kept F w w'
/-- a new one -/
def PlNew (p : Nat) (s : List It) (w w' : World) : Prop := (∃ F, Pl w' F p s ∧ ∀ k, F k → w.heap.size ≤ k) ∧ Below w.heap.size w w'
theorem PlTo.refl {w : World} {F : Nat → Prop} {p : Nat} {s : List It} (h : Pl w F p s) : PlTo F p s w w := ⟨⟨F, h, fun _ h => .inl h⟩, Kept.refl _ _⟩
theorem Pq.pl {w : World} {p q bm : Nat} {v : Value} {l s : List It} (h : Pq w p q v bm l) (hs : l.Perm s) (srt : Pil.Srt s) : Pl w (fun k => k = p ∨ k = q ∨ k = bm ∨ v.ownBlock = some k) p s := by
  refine ⟨srt, fun k hk => ?_, .inl rfl, .inr ⟨q, v, bm, l, h, hs, .inr (.inl rfl), .inr (.inr (.inl rfl)), fun k hk => .inr (.inr (.inr hk))⟩⟩
  rcases hk with rfl | rfl | rfl | hk
  · exact (Array.getElem?_eq_some_iff.1 h.hp).1
  · exact h.sv.lt_q
  · exact h.sv.map.lt
  · exact (h.sv.row.lt k hk).2
/-- behind a call that changed the items -/
theorem Pq.to {w w' : World} {F : Nat → Prop} {p q bm : Nat} {v v' : Value} {l l' s : List It} (h : Pq w p q v bm l) (fp : F p) (fq : F q) (fb : F bm) (fv : ∀ k, v.ownBlock = some k → F k)
    (sv : Sv w' q v' bm l') (ok : Hep.Ok l') (hs : l'.Perm s) (srt : Pil.Srt s) (ho : ∀ k, v'.ownBlock = some k → v.ownBlock = some k ∨ w.heap.size ≤ k) (hk : Kept (fun k => k = q ∨ v.ownBlock = some k ∨ k = bm) w w') : PlTo F p s w w' := by
  have hlt := (Array.getElem?_eq_some_iff.1 h.hp).1
  have h' : Pq w' p q v' bm l' := ⟨(hk.block p hlt (fun e => by rcases e with e | e | e; exact h.pq e; exact h.pv e; exact h.pb e)).trans h.hp, sv, ok, h.pq, h.pb, fun e => by rcases ho p e with e | e; exact h.pv e; omega⟩
  refine ⟨⟨_, h'.pl hs srt, fun k hf => ?_⟩, hk.more fun b hb => .inl ?_⟩
  · rcases hf with rfl | rfl | rfl | e
    · exact .inl fp
    · exact .inl fq
    · exact .inl fb
    · exact (ho k e).imp (fv k) id
  · rcases hb with rfl | e | rfl
    · exact fq
    · exact fv b e
    · exact fb
theorem posf_isSome {l s : List It} (hs : l.Perm s) (srt : Pil.Srt s) (key : Int) : (posf l key).isSome = (Pil.get s key).isSome := by
  unfold posf
  rw [Option.isSome_map, Pil.find_isSome, Pil.perm_get hs srt.nd]
theorem posf_at {l s : List It} (hs : l.Perm s) (srt : Pil.Srt s) {key z : Int} (h : posf l key = some z) : ∃ i : Nat, z = (i : Int) ∧ i < l.length ∧ (Hep.g l i).1 = key ∧ Pil.get s key = some (Hep.g l i).2 ∧ key ∈ Pil.keys s := by
  have hn : (Pil.keys l).Nodup := Pil.Perm.nd hs srt.nd
  obtain ⟨i, hz, hi, hg⟩ := (posf_iff hn key z).1 h
  have hm : (key, (Hep.g l i).2) ∈ l := by rw [← hg]; exact List.mem_of_getElem? (Hep.g_eq hi)
  have hm2 := hs.mem_iff.1 hm
  exact ⟨i, hz, hi, hg, (Pil.get_iff srt.nd key _).2 hm2, Pil.mem_keys.2 ⟨_, hm2⟩⟩
theorem take_perm {s : List It} (hn : (Pil.keys s).Nodup) {x : It} (hx : x ∈ s) : (x :: Pil.del s x.1).Perm s := by
  induction s with
  | nil => cases hx
  | cons p r ih =>
    obtain ⟨h1, h2⟩ := List.nodup_cons.1 hn
    rcases List.mem_cons.1 hx with e | hr
    · subst e; rw [Pil.del_head hn]
    · have hne : p.1 ≠ x.1 := fun e => h1 (by show p.1 ∈ Pil.keys r; rw [e]; exact Pil.mem_keys.2 ⟨x.2, hr⟩)
      have e : Pil.del (p :: r) x.1 = p :: Pil.del r x.1 := List.filter_cons_of_pos (by simp [hne])
      rw [e]
      exact (List.Perm.swap p x _).trans ((ih h2 hr).cons p)
theorem move_perm {l s : List It} (hs : l.Perm s) (srt : Pil.Srt s) {i : Nat} (hi : i < l.length) {key : Int} (rank : Int) (hg : (Hep.g l i).1 = key) (hm : key ∈ Pil.keys s) : (l.set i (key, rank)).Perm (Pil.move s (key, rank)) := by
  have h1 := Hep.set_perm hi (key, rank)
  have h2 := take_perm srt.nd (hs.mem_iff.1 (List.mem_of_getElem? (Hep.g_eq hi)))
  rw [hg] at h2
  unfold Pil.move
  rw [if_pos hm]
  refine List.Perm.trans ?_ (Pil.ins_perm _ _).symm
  refine (List.perm_cons (Hep.g l i)).1 (h1.trans ?_)
  exact ((hs.trans h2.symm).cons _).trans (List.Perm.swap _ _ _)
theorem move_none {s : List It} {key : Int} (rank : Int) (h : (Pil.get s key).isSome = false) : Pil.move s (key, rank) = s ∧ Pil.del s key = s ∧ key ∉ Pil.keys s := by
  have hk : key ∉ Pil.keys s := fun e => by rw [Pil.get_some.2 e] at h; cases h
  exact ⟨by unfold Pil.move; rw [if_neg hk], Pil.del_none hk, hk⟩
theorem drop_perm {l l' s : List It} (hs : l.Perm s) (srt : Pil.Srt s) {x : It} (h : (x :: l').Perm l) : l'.Perm (Pil.del s x.1) := by
  have h1 := take_perm srt.nd (x := x) (hs.mem_iff.1 (h.mem_iff.1 (List.mem_cons_self ..)))
  exact (List.perm_cons x).1 ((h.trans hs).trans h1.symm)
/-- what stands first in the row is on top -/
theorem top_g {l s : List It} (ok : Hep.Ok l) (hl : 0 < l.length) (hs : l.Perm s) (srt : Pil.Srt s) : ∃ r, s = Hep.g l 0 :: r := by
  cases s with
  | nil => have := hs.length_eq; simp at this; rw [this] at hl; simp at hl
  | cons x r =>
    have := Pil.top_head hs srt (ok.top (List.length_pos_iff.1 hl))
    exact ⟨r, by rw [Hep.g_of this]⟩
end Go.Proofs.Ytojballaghkojaa
