/- Mathematics of layer 7 (pile): keys with ranks as a row that rises by rank, then key; and as a row in any order. No program is spoken of here. -/
import Derived.Test.YtojballaghkojaaLib
namespace Go.Proofs.Ytojballaghkojaa.Pil

/-- a key with its rank -/
abbrev It := Int × Int
def lt (a b : It) : Prop := a.2 < b.2 ∨ a.2 = b.2 ∧ a.1 < b.1
instance (a b : It) : Decidable (lt a b) := inferInstanceAs (Decidable (_ ∨ _))
theorem lt_irrefl (a : It) : ¬ lt a a := by unfold lt; omega
theorem lt_trans {a b c : It} (h : lt a b) (k : lt b c) : lt a c := by unfold lt at *; omega
theorem lt_tri {a b : It} (h : a.1 ≠ b.1) : lt a b ∨ lt b a := by unfold lt; omega
theorem lt_asymm {a b : It} (h : lt a b) : ¬ lt b a := by unfold lt at *; omega
def keys (l : List It) : List Int := l.map (·.1)
structure Srt (s : List It) : Prop where
  up : s.Pairwise lt
  nd : (keys s).Nodup
theorem srt_nil : Srt [] := ⟨List.Pairwise.nil, List.nodup_nil⟩
theorem Srt.tail {x : It} {r : List It} (h : Srt (x :: r)) : Srt r := ⟨(List.pairwise_cons.1 h.up).2, (List.nodup_cons.1 h.nd).2⟩
theorem mem_keys {l : List It} {key : Int} : key ∈ keys l ↔ ∃ r, (key, r) ∈ l := by
  unfold keys
  rw [List.mem_map]
  exact ⟨fun ⟨p, hp, e⟩ => ⟨p.2, by subst e; exact hp⟩, fun ⟨r, h⟩ => ⟨_, h, rfl⟩⟩
def get (l : List It) (key : Int) : Option Int := (l.find? fun p => p.1 == key).map (·.2)
theorem get_nil (key : Int) : get [] key = none := rfl
theorem get_cons (p : It) (r : List It) (key : Int) : get (p :: r) key = if p.1 = key then some p.2 else get r key := by
  unfold get
  rw [List.find?_cons]
  by_cases h : p.1 = key
  · rw [if_pos h, beq_iff_eq.2 h]; rfl
  · rw [if_neg h, beq_eq_false_iff_ne.2 h]
theorem get_iff {l : List It} (h : (keys l).Nodup) (key r : Int) : get l key = some r ↔ (key, r) ∈ l := by
  induction l with
  | nil => simp [get_nil]
  | cons p t ih =>
    obtain ⟨h1, h2⟩ := List.nodup_cons.1 h
    rw [get_cons]
    by_cases hp : p.1 = key
    · rw [if_pos hp]
      constructor
      · rintro e; injection e with e; subst hp; subst e; exact List.mem_cons_self ..
      · intro hm
        rcases List.mem_cons.1 hm with e | hm
        · rw [← e]
        · exact absurd (mem_keys.2 ⟨r, hm⟩) (by rw [← hp]; exact h1)
    · rw [if_neg hp, ih h2, List.mem_cons]
      exact ⟨.inr, fun h => h.resolve_left (fun e => hp (by rw [← e]))⟩
theorem get_none {l : List It} {key : Int} : get l key = none ↔ key ∉ keys l := by
  induction l with
  | nil => simp [get_nil, keys]
  | cons p t ih =>
    rw [get_cons]
    unfold keys
    rw [List.map_cons, List.mem_cons]
    by_cases hp : p.1 = key
    · rw [if_pos hp]; simp [hp]
    · rw [if_neg hp, ih]
      exact ⟨fun h => fun h2 => h2.elim (fun e => hp e.symm) h, fun h h2 => h (.inr h2)⟩
theorem get_some {l : List It} {key : Int} : (get l key).isSome = true ↔ key ∈ keys l := by
  rw [Option.isSome_iff_ne_none, ne_eq, get_none, Decidable.not_not]
theorem Perm.nd {l s : List It} (h : l.Perm s) (hs : (keys s).Nodup) : (keys l).Nodup := (h.map _).nodup_iff.2 hs
theorem perm_get {l s : List It} (h : l.Perm s) (hs : (keys s).Nodup) (key : Int) : get l key = get s key := by
  apply Option.ext
  intro r
  rw [get_iff (Perm.nd h hs), get_iff hs]
  exact h.mem_iff
def del (l : List It) (key : Int) : List It := l.filter fun p => p.1 != key
theorem mem_del {l : List It} {key : Int} {x : It} : x ∈ del l key ↔ x ∈ l ∧ x.1 ≠ key := by unfold del; rw [List.mem_filter]; simp
theorem Srt.del {s : List It} (h : Srt s) (key : Int) : Srt (del s key) := ⟨h.up.filter _, h.nd.sublist (List.Sublist.map _ (List.filter_sublist ..))⟩
theorem del_none {l : List It} {key : Int} (h : key ∉ keys l) : del l key = l := by
  unfold del
  rw [List.filter_eq_self]
  intro p hp
  have : p.1 ≠ key := fun e => h (mem_keys.2 ⟨p.2, by rw [← e]; exact hp⟩)
  simpa using this
theorem get_del (l : List It) (key o : Int) : get (del l key) o = if key = o then none else get l o := by
  induction l with
  | nil => unfold del; simp [get_nil]
  | cons p r ih =>
    by_cases h : p.1 = key
    · have e : del (p :: r) key = del r key := List.filter_cons_of_neg (by simp [h])
      rw [e, ih, get_cons]
      by_cases hk : key = o
      · rw [if_pos hk, if_pos hk]
      · rw [if_neg hk, if_neg hk, if_neg (fun e2 => hk (h.symm.trans e2))]
    · have e : del (p :: r) key = p :: del r key := List.filter_cons_of_pos (by simp [h])
      rw [e, get_cons, get_cons, ih]
      by_cases hp : p.1 = o
      · rw [if_pos hp, if_pos hp, if_neg (fun e2 => h (hp.trans e2.symm))]
      · rw [if_neg hp, if_neg hp]
/-- the row behind its first -/
theorem del_head {x : It} {r : List It} (h : (keys (x :: r)).Nodup) : del (x :: r) x.1 = r := by
  have e : del (x :: r) x.1 = del r x.1 := List.filter_cons_of_neg (by simp)
  rw [e, del_none (List.nodup_cons.1 h).1]
theorem len_del {l : List It} (h : (keys l).Nodup) {key : Int} (hk : key ∈ keys l) : (del l key).length + 1 = l.length := by
  induction l with
  | nil => cases hk
  | cons p r ih =>
    by_cases hp : p.1 = key
    · subst hp; rw [del_head h]; rfl
    · have e : del (p :: r) key = p :: del r key := List.filter_cons_of_pos (by simp [hp])
      have hk' : key ∈ keys r := (List.mem_cons.1 hk).resolve_left (fun e => hp e.symm)
      rw [e, List.length_cons, List.length_cons, ih (List.nodup_cons.1 h).2 hk']
def ins (x : It) : List It → List It
  | [] => [x]
  | y :: r => if lt x y then x :: y :: r else y :: ins x r
theorem ins_perm (x : It) (s : List It) : (ins x s).Perm (x :: s) := by
  induction s with
  | nil => exact .refl _
  | cons y r ih =>
    unfold ins
    split
    · exact .refl _
    · exact (ih.cons y).trans (.swap x y r)
theorem Srt.ins {s : List It} (h : Srt s) {x : It} (hx : x.1 ∉ keys s) : Srt (ins x s) := by
  refine ⟨?_, ((ins_perm x s).map _).nodup_iff.2 (List.nodup_cons.2 ⟨hx, h.nd⟩)⟩
  induction s with
  | nil => exact List.pairwise_singleton _ _
  | cons y r ih =>
    obtain ⟨h1, h2⟩ := List.pairwise_cons.1 h.up
    unfold Pil.ins
    split
    · rename_i hl
      refine List.pairwise_cons.2 ⟨fun z hz => ?_, h.up⟩
      rcases List.mem_cons.1 hz with rfl | hz
      · exact hl
      · exact lt_trans hl (h1 z hz)
    · rename_i hl
      have hy : lt y x := (lt_tri (fun e => hx (by rw [e]; exact List.mem_cons_self ..))).resolve_left hl
      refine List.pairwise_cons.2 ⟨fun z hz => ?_, ih h.tail (fun e => hx (List.mem_cons_of_mem _ e))⟩
      rcases List.mem_cons.1 ((ins_perm x r).mem_iff.1 hz) with rfl | hz
      · exact hy
      · exact h1 z hz
theorem get_ins {s : List It} (h : Srt s) {x : It} (hx : x.1 ∉ keys s) (o : Int) : get (ins x s) o = if x.1 = o then some x.2 else get s o := by
  rw [perm_get (ins_perm x s) (List.nodup_cons.2 ⟨hx, h.nd⟩), get_cons]
theorem len_ins (x : It) (s : List It) : (ins x s).length = s.length + 1 := (ins_perm x s).length_eq
/-- two rows that rise and have the same are one -/
theorem ext {a b : List It} (ha : a.Pairwise lt) (hb : b.Pairwise lt) (h : ∀ x, x ∈ a ↔ x ∈ b) : a = b := by
  induction a generalizing b with
  | nil =>
    cases b with
    | nil => rfl
    | cons q s => have := (h q).2 (List.mem_cons_self ..); cases this
  | cons p r ih =>
    cases b with
    | nil => have := (h p).1 (List.mem_cons_self ..); cases this
    | cons q s =>
      obtain ⟨a1, a2⟩ := List.pairwise_cons.1 ha
      obtain ⟨b1, b2⟩ := List.pairwise_cons.1 hb
      have e : p = q := by
        rcases List.mem_cons.1 ((h p).1 (List.mem_cons_self ..)) with e | h1
        · exact e
        · rcases List.mem_cons.1 ((h q).2 (List.mem_cons_self ..)) with e | h2
          · exact e.symm
          · exact absurd (lt_trans (b1 p h1) (a1 q h2)) (lt_irrefl _)
      subst e
      congr 1
      refine ih a2 b2 fun x => ⟨fun hx => ?_, fun hx => ?_⟩
      · rcases List.mem_cons.1 ((h x).1 (List.mem_cons_of_mem _ hx)) with e | h1
        · subst e; exact absurd (a1 x hx) (lt_irrefl _)
        · exact h1
      · rcases List.mem_cons.1 ((h x).2 (List.mem_cons_of_mem _ hx)) with e | h1
        · subst e; exact absurd (b1 x hx) (lt_irrefl _)
        · exact h1
/-- what a push makes of it; what a move does -/
def push (s : List It) (x : It) : List It := if x.1 ∈ keys s then s else ins x s
def move (s : List It) (x : It) : List It := if x.1 ∈ keys s then ins x (del s x.1) else s
theorem not_del (s : List It) (key : Int) : key ∉ keys (del s key) := fun h => by
  obtain ⟨r, h⟩ := mem_keys.1 h
  exact (mem_del.1 h).2 rfl
theorem Srt.push {s : List It} (h : Srt s) (x : It) : Srt (push s x) := by
  unfold Pil.push
  split
  · exact h
  · rename_i hx; exact h.ins hx
theorem Srt.move {s : List It} (h : Srt s) (x : It) : Srt (move s x) := by
  unfold Pil.move
  split
  · exact (h.del _).ins (not_del _ _)
  · exact h
theorem len_push (s : List It) (x : It) : (push s x).length = s.length + if x.1 ∈ keys s then 0 else 1 := by
  unfold Pil.push
  split
  · rfl
  · exact len_ins _ _
theorem len_move {s : List It} (h : Srt s) (x : It) : (move s x).length = s.length := by
  unfold Pil.move
  split
  · rename_i hx; rw [len_ins, len_del h.nd hx]
  · rfl
theorem get_push {s : List It} (h : Srt s) (x : It) (o : Int) : get (push s x) o = if x.1 = o ∧ x.1 ∉ keys s then some x.2 else get s o := by
  unfold Pil.push
  by_cases hx : x.1 ∈ keys s
  · rw [if_pos hx, if_neg (fun e => e.2 hx)]
  · rw [if_neg hx, get_ins h hx]
    by_cases e : x.1 = o
    · rw [if_pos e, if_pos ⟨e, hx⟩]
    · rw [if_neg e, if_neg (fun k => e k.1)]
theorem get_move {s : List It} (h : Srt s) (x : It) (o : Int) : get (move s x) o = if x.1 = o ∧ x.1 ∈ keys s then some x.2 else get s o := by
  unfold Pil.move
  by_cases hx : x.1 ∈ keys s
  · rw [if_pos hx, get_ins (h.del _) (not_del _ _), get_del]
    by_cases e : x.1 = o
    · rw [if_pos e, if_pos ⟨e, hx⟩]
    · rw [if_neg e, if_neg e, if_neg (fun k => e k.1)]
  · rw [if_neg hx, if_neg (fun e => hx e.2)]
theorem mem_push {s : List It} {x y : It} : y ∈ push s x ↔ y ∈ s ∨ y = x ∧ x.1 ∉ keys s := by
  unfold Pil.push
  split
  · rename_i hx; exact ⟨.inl, fun h => h.elim id (fun e => absurd hx e.2)⟩
  · rename_i hx
    rw [(ins_perm x s).mem_iff, List.mem_cons]
    exact ⟨fun h => h.elim (fun e => .inr ⟨e, hx⟩) .inl, fun h => h.elim .inr (fun e => .inl e.1)⟩
theorem keys_push {s : List It} {x : It} {o : Int} : o ∈ keys (push s x) ↔ o = x.1 ∨ o ∈ keys s := by
  rw [mem_keys]
  constructor
  · rintro ⟨r, h⟩
    rcases mem_push.1 h with h | ⟨e, _⟩
    · exact .inr (mem_keys.2 ⟨r, h⟩)
    · exact .inl (by rw [← e])
  · rintro (rfl | h)
    · by_cases hx : x.1 ∈ keys s
      · obtain ⟨r, hr⟩ := mem_keys.1 hx
        exact ⟨r, mem_push.2 (.inl hr)⟩
      · exact ⟨x.2, mem_push.2 (.inr ⟨rfl, hx⟩)⟩
    · obtain ⟨r, hr⟩ := mem_keys.1 h
      exact ⟨r, mem_push.2 (.inl hr)⟩

/-! ### a row in any order: the document's -/
/-- the place of a key; -1 -/
def find (l : List It) (key : Int) : Option Nat := l.findIdx? fun p => p.1 == key
theorem find_some {l : List It} {key : Int} {k : Nat} (h : find l key = some k) : ∃ r, l[k]? = some (key, r) ∧ k < l.length := by
  unfold find at h
  obtain ⟨hk, hp, _⟩ := List.findIdx?_eq_some_iff_getElem.1 h
  refine ⟨l[k].2, ?_, hk⟩
  rw [List.getElem?_eq_getElem hk]
  have : l[k].1 = key := by simpa using hp
  rw [← this]
theorem find_none {l : List It} {key : Int} (h : find l key = none) : key ∉ keys l := by
  unfold find at h
  rw [List.findIdx?_eq_none_iff] at h
  intro hk
  obtain ⟨r, hr⟩ := mem_keys.1 hk
  have := h _ hr
  simp at this
theorem find_isSome (l : List It) (key : Int) : (find l key).isSome = (get l key).isSome := by
  cases hf : find l key with
  | none =>
    rw [get_none.2 (find_none hf)]; rfl
  | some k =>
    obtain ⟨r, hr, _⟩ := find_some hf
    rw [get_some.2 (mem_keys.2 ⟨r, List.mem_of_getElem? hr⟩)]; rfl
theorem find_get {l : List It} {key : Int} {k : Nat} {r : Int} (hn : (keys l).Nodup) (hr : l[k]? = some (key, r)) : get l key = some r := (get_iff hn key r).2 (List.mem_of_getElem? hr)
/-- the row but for a place -/
theorem erase_perm {l : List It} (hn : (keys l).Nodup) {k : Nat} {x : It} (h : l[k]? = some x) : (l.eraseIdx k).Perm (del l x.1) := by
  induction l generalizing k with
  | nil => cases h
  | cons p r ih =>
    obtain ⟨h1, h2⟩ := List.nodup_cons.1 hn
    cases k with
    | zero =>
      injection h with h; subst h
      rw [List.eraseIdx_zero, del_head hn]; exact .refl _
    | succ k =>
      have hx : x ∈ r := List.mem_of_getElem? (show r[k]? = some x from h)
      have hne : p.1 ≠ x.1 := fun e => h1 (by show p.1 ∈ keys r; rw [e]; exact mem_keys.2 ⟨x.2, hx⟩)
      have e : del (p :: r) x.1 = p :: del r x.1 := List.filter_cons_of_pos (by simp [hne])
      rw [List.eraseIdx_cons_succ, e]
      exact (ih h2 h).cons p
/-- the place of the least -/
def topAt (l : List It) (k : Nat) : Prop := ∃ x, l[k]? = some x ∧ ∀ y ∈ l, y = x ∨ lt x y
theorem top_head {l s : List It} {x : It} {k : Nat} (hp : l.Perm (x :: s)) (hs : Srt (x :: s)) (h : topAt l k) : l[k]? = some x := by
  obtain ⟨y, hy, hall⟩ := h
  have hym : y ∈ x :: s := hp.mem_iff.1 (List.mem_of_getElem? hy)
  have hxm : x ∈ l := hp.mem_iff.2 (List.mem_cons_self ..)
  rw [hy]
  rcases hall x hxm with e | hl
  · rw [e]
  · rcases List.mem_cons.1 hym with e | hm
    · rw [e]
    · exact absurd ((List.pairwise_cons.1 hs.up).1 y hm) (lt_asymm hl)
theorem perm_del {l s : List It} (h : l.Perm s) (key : Int) : (del l key).Perm (del s key) := h.filter _
theorem perm_push {l s : List It} (h : l.Perm s) {x : It} (hx : x.1 ∉ keys s) : (l ++ [x]).Perm (push s x) := by
  unfold Pil.push
  rw [if_neg hx]
  exact (List.perm_append_comm.trans (h.cons x)).trans (ins_perm x s).symm
end Go.Proofs.Ytojballaghkojaa.Pil
