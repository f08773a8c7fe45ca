/- What is pushed one behind the other (layer 7); a pile and a block beside it; two piles. -/
import Derived.Test.YtojballaghkojaaPilJ
namespace Go.Proofs.Ytojballaghkojaa
open Go.RowKit Go.Shelf
open Pil (It)

def pushesM (l : List Opi) : List It := l.foldl (fun s o => Pil.push s o.2) []
theorem pushesM_next (l : List Opi) (k : Nat) (o : Opi) (h : l[k]? = some o) : pushesM (l.take (k + 1)) = Pil.push (pushesM (l.take k)) o.2 := by
  unfold pushesM
  rw [List.take_add_one, h, List.foldl_append]
  rfl
theorem len_push_le (s : List It) (x : It) : (Pil.push s x).length ≤ s.length + 1 := by rw [Pil.len_push]; split <;> omega
theorem pushesM_facts (l : List Opi) (k : Nat) : Pil.Srt (pushesM (l.take k)) ∧ (pushesM (l.take k)).length ≤ k := by
  induction k with
  | zero => rw [List.take_zero]; exact ⟨Pil.srt_nil, Nat.le_refl _⟩
  | succ k ih =>
    cases h : l[k]? with
    | none =>
      rw [List.take_of_length_le (by rw [List.getElem?_eq_none_iff] at h; omega)]
      rw [List.take_of_length_le (by rw [List.getElem?_eq_none_iff] at h; omega)] at ih
      exact ⟨ih.1, by omega⟩
    | some o =>
      rw [pushesM_next l k o h]
      exact ⟨ih.1.push _, Nat.le_trans (len_push_le _ _) (by omega)⟩
theorem pushesM_all (l : List Opi) : Pil.Srt (pushesM l) ∧ (pushesM l).length ≤ l.length := by
  have := pushesM_facts l l.length
  rwa [List.take_length] at this
/-- all keys that were done with are there -/
theorem pushesM_keys (l : List Opi) (key : Int) : key ∈ Pil.keys (pushesM l) ↔ ∃ o ∈ l, o.2.1 = key := by
  have h : ∀ k, k ≤ l.length → (key ∈ Pil.keys (pushesM (l.take k)) ↔ ∃ o ∈ l.take k, o.2.1 = key) := by
    intro k
    induction k with
    | zero => intro _; rw [List.take_zero]; simp [pushesM, Pil.keys]
    | succ k ih =>
      intro hk
      have hl := List.getElem?_eq_getElem (show k < l.length by omega)
      rw [pushesM_next l k _ hl, Pil.keys_push, ih (by omega), List.take_add_one, hl]
      constructor
      · rintro (rfl | ⟨o, ho, e⟩)
        · exact ⟨_, List.mem_append_right _ (List.mem_singleton.2 rfl), rfl⟩
        · exact ⟨o, List.mem_append_left _ ho, e⟩
      · rintro ⟨o, ho, e⟩
        rcases List.mem_append.1 ho with h | h
        · exact .inr ⟨o, h, e⟩
        · rw [show o = l[k] from List.mem_singleton.1 h] at e
          exact .inl e.symm
  have := h l.length (Nat.le_refl _)
  rwa [List.take_length] at this

theorem grownBy_setCell_i (w : World) (B i : Nat) (v : Value) : w.grownBy (w.setCell ⟨B, i, none⟩ v) (some B) :=
  ⟨rfl, rfl, rfl, (KeepsWalks.setCell w _ v).size, fun k _ hk => Below.heap_setCell _ _ _ k (fun e => hk (by rw [e]))⟩
/-- a pile, and a block beside it that is none of its own -/
def PlB (n₀ : Nat) (w : World) (p : Nat) (s : List It) (B : Nat) (o : Obj) : Prop := ∃ F, Pl w F p s ∧ (∀ k, F k → n₀ ≤ k) ∧ ¬ F B ∧ w.heap[B]? = some o
theorem PlB.pl {n₀ : Nat} {w : World} {p : Nat} {s : List It} {B : Nat} {o : Obj} (h : PlB n₀ w p s B o) : PlO n₀ w p s := by
  obtain ⟨F, h1, h2, _⟩ := h
  exact ⟨F, h1, h2⟩
theorem PlB.at_ {n₀ : Nat} {w : World} {p : Nat} {s : List It} {B : Nat} {o : Obj} (h : PlB n₀ w p s B o) : w.heap[B]? = some o := by
  obtain ⟨F, _, _, _, h4⟩ := h
  exact h4
theorem PlB.new {n₀ : Nat} {w : World} {p : Nat} {s : List It} (h : PlO n₀ w p s) (o : Obj) : PlB n₀ (w.alloc o) p s w.heap.size o := by
  obtain ⟨F, h1, h2⟩ := h
  exact ⟨F, h1.below (below_alloc w o), h2, fun hf => Nat.lt_irrefl _ (h1.lt _ hf), World.alloc_heap_new w o⟩
theorem PlB.put {n₀ : Nat} {w w' : World} {p : Nat} {s : List It} {B : Nat} {o o' : Obj} (h : PlB n₀ w p s B o) (hg : w.grownBy w' (some B)) (ho : w'.heap[B]? = some o') : PlB n₀ w' p s B o' := by
  obtain ⟨F, h1, h2, h3, _⟩ := h
  exact ⟨F, h1.keep fun k hk => hg.block k (h1.lt k hk) (fun e => by cases e; exact h3 hk), h2, h3, ho⟩
theorem set_at {w : World} {B i : Nat} {cs : Array Value} {t : TypeId} {x y : Nat} (h : w.heap[B]? = some (.cells cs t (x, y))) (v : Value) : (w.setCell ⟨B, i, none⟩ v).heap[B]? = some (.cells (cs.setIfInBounds i v) t (x, y)) := by
  obtain ⟨hlt, hk⟩ := Array.getElem?_eq_some_iff.1 h
  show (w.heap.modify B _)[B]? = _
  rw [Array.getElem?_eq_getElem (by rw [Array.size_modify]; exact hlt), Array.getElem_modify_self, hk]
  rfl
theorem PlB.set3 {n₀ : Nat} {w : World} {p : Nat} {s : List It} {B : Nat} {a b c : Value} {t : TypeId} (h : PlB n₀ w p s B (.cells #[a, b, c] t)) (x y z : Value) : PlB n₀ (((w.setCell ⟨B, 0, none⟩ x).setCell ⟨B, 1, none⟩ y).setCell ⟨B, 2, none⟩ z) p s B (.cells #[x, y, z] t) := by
  have h1 := h.put (grownBy_setCell_i w B 0 x) (set_at h.at_ x)
  have h2 := h1.put (grownBy_setCell_i _ B 1 y) (set_at h1.at_ y)
  have h3 := h2.put (grownBy_setCell_i _ B 2 z) (set_at h2.at_ z)
  simpa using h3
theorem plB_Pop {n₀ : Nat} {w : World} {p : Nat} {s : List It} {B : Nat} {o : Obj} (h : PlB n₀ w p s B o) (hn : n₀ ≤ w.heap.size) (hm : s.length ≤ 10000) :
    Calls Try.prog 21 #[ptr p] w fun e w' => e = .returned (topV s) ∧ PlB n₀ w' p s.tail B o ∧ Below n₀ w w' := by
  obtain ⟨F, h1, h2, h3, h4⟩ := h
  refine (p_Pop h1 hm).mono ?_
  rintro e w' ⟨he, ht⟩
  refine ⟨he, ?_, (ht.below h2 hn).1⟩
  obtain ⟨⟨F', t1, t2⟩, hk⟩ := ht
  have hB := (Array.getElem?_eq_some_iff.1 h4).1
  exact ⟨F', t1, fun k hk => by rcases t2 k hk with h | h; exact h2 k h; omega, fun hf => by rcases t2 B hf with h | h; exact h3 h; omega, (hk.block B hB h3).trans h4⟩

/-- two piles that know nothing of one another -/
def Apl (n₀ : Nat) (w : World) (p q : Nat) (sp sq : List It) : Prop := ∃ F G, Pl w F p sp ∧ Pl w G q sq ∧ (∀ k, F k → n₀ ≤ k) ∧ (∀ k, G k → n₀ ≤ k) ∧ ∀ k, F k → G k → False
theorem Apl.p {n₀ : Nat} {w : World} {p q : Nat} {sp sq : List It} (h : Apl n₀ w p q sp sq) : PlO n₀ w p sp := by
  obtain ⟨F, G, t1, _, f1, _⟩ := h
  exact ⟨F, t1, f1⟩
theorem Apl.q {n₀ : Nat} {w : World} {p q : Nat} {sp sq : List It} (h : Apl n₀ w p q sp sq) : PlO n₀ w q sq := by
  obtain ⟨F, G, _, t2, _, f2, _⟩ := h
  exact ⟨G, t2, f2⟩
theorem Apl.swap {n₀ : Nat} {w : World} {p q : Nat} {sp sq : List It} (h : Apl n₀ w p q sp sq) : Apl n₀ w q p sq sp := by
  obtain ⟨F, G, t1, t2, f1, f2, hd⟩ := h
  exact ⟨G, F, t2, t1, f2, f1, fun k a b => hd k b a⟩
theorem Apl.below {n₀ : Nat} {w w' : World} {p q : Nat} {sp sq : List It} (h : Apl n₀ w p q sp sq) (hb : Below w.heap.size w w') : Apl n₀ w' p q sp sq := by
  obtain ⟨F, G, t1, t2, f1, f2, hd⟩ := h
  exact ⟨F, G, t1.below hb, t2.below hb, f1, f2, hd⟩
theorem Apl.mk {n₀ : Nat} {w w' : World} {p q : Nat} {sp sq : List It} (h : PlO n₀ w p sp) (hn : n₀ ≤ w.heap.size) (hb : Below w.heap.size w w') (k : PlO w.heap.size w' q sq) : Apl n₀ w' p q sp sq := by
  obtain ⟨F, t1, f1⟩ := h
  obtain ⟨G, t2, f2⟩ := k
  exact ⟨F, G, t1.below hb, t2, f1, fun k hk => Nat.le_trans hn (f2 k hk), fun k a b => by have := t1.lt k a; have := f2 k b; omega⟩
theorem Apl.to {n₀ : Nat} {w w' : World} {p q : Nat} {sp' sq : List It} {F G : Nat → Prop} (hn : n₀ ≤ w.heap.size) (t2 : Pl w G q sq) (f1 : ∀ k, F k → n₀ ≤ k) (f2 : ∀ k, G k → n₀ ≤ k) (hd : ∀ k, F k → G k → False) (ht : PlTo F p sp' w w') : Apl n₀ w' p q sp' sq ∧ Below n₀ w w' := by
  refine ⟨?_, (ht.below f1 hn).1⟩
  obtain ⟨⟨F', t1', g⟩, hk⟩ := ht
  exact ⟨F', G, t1', t2.keep fun k hG => hk.block k (t2.lt k hG) (fun hf => hd k hf hG), fun k h => by rcases g k h with h | h; exact f1 k h; omega, f2, fun k h hG => by rcases g k h with h | h; exact hd k h hG; have := t2.lt k hG; omega⟩
def ApDid (n₀ p q : Nat) (sp sq : List It) (b : Bool) (w : World) (e : Ending) (w' : World) : Prop := e = .returned (.bool b) ∧ Apl n₀ w' p q sp sq ∧ Below n₀ w w'
theorem ap_Push {n₀ : Nat} {w : World} {p q : Nat} {sp sq : List It} (h : Apl n₀ w p q sp sq) (hn : n₀ ≤ w.heap.size) (hm : sp.length ≤ 10000) (key rank : Int) (hk : I64 key) (hr : I64 rank) :
    Calls Try.prog 13 #[ptr p, .int .i64 key, .int .i64 rank] w (ApDid n₀ p q (Pil.push sp (key, rank)) sq (!(Pil.get sp key).isSome) w) := by
  obtain ⟨F, G, t1, t2, f1, f2, hd⟩ := h
  exact (p_Push t1 hm key rank hk hr).mono fun e w' ⟨he, ht⟩ => ⟨he, Apl.to hn t2 f1 f2 hd ht⟩
theorem ap_Pop {n₀ : Nat} {w : World} {p q : Nat} {sp sq : List It} (h : Apl n₀ w p q sp sq) (hn : n₀ ≤ w.heap.size) (hm : sp.length ≤ 10000) :
    Calls Try.prog 21 #[ptr p] w fun e w' => e = .returned (topV sp) ∧ Apl n₀ w' p q sp.tail sq ∧ Below n₀ w w' := by
  obtain ⟨F, G, t1, t2, f1, f2, hd⟩ := h
  exact (p_Pop t1 hm).mono fun e w' ⟨he, ht⟩ => ⟨he, Apl.to hn t2 f1 f2 hd ht⟩
theorem srt_next {s : List It} (h : Pil.Srt s) {j : Nat} {x y : It} (h1 : s[j - 1]? = some y) (h2 : s[j]? = some x) (hj : 0 < j) : Pil.lt y x := by
  obtain ⟨l1, e1⟩ := List.getElem?_eq_some_iff.1 h1
  obtain ⟨l2, e2⟩ := List.getElem?_eq_some_iff.1 h2
  have := List.pairwise_iff_getElem.1 h.up (j - 1) j l1 l2 (by omega)
  rwa [e1, e2] at this
/-- of the keys from one place on: those, with the ranks that they have in s -/
def From2 (s : List It) (l : List Opi) (k : Nat) (sq : List It) : Prop := ∀ x, x ∈ sq ↔ x ∈ s ∧ ∃ o ∈ l.drop k, o.2.1 = x.1
theorem From2.step {s sq : List It} {l : List Opi} {k : Nat} {o : Opi} {r : Int} (h : From2 s l (k + 1) sq) (hs : Pil.Srt s) (ho : l[k]? = some o) (hr : Pil.get s o.2.1 = some r) : From2 s l k (Pil.push sq (o.2.1, r)) := by
  have hm := (Pil.get_iff hs.nd _ _).1 hr
  have hd : l.drop k = o :: l.drop (k + 1) := by
    obtain ⟨hlt, e⟩ := List.getElem?_eq_some_iff.1 ho
    rw [List.drop_eq_getElem_cons hlt, e]
  intro x
  rw [Pil.mem_push, h x, hd]
  constructor
  · rintro (⟨h1, q, hq, e⟩ | ⟨rfl, _⟩)
    · exact ⟨h1, q, List.mem_cons_of_mem _ hq, e⟩
    · exact ⟨hm, o, List.mem_cons_self .., rfl⟩
  · rintro ⟨h1, q, hq, e⟩
    rcases List.mem_cons.1 hq with rfl | hq
    · have hx : x = (q.2.1, r) := by
        obtain ⟨xk, xr⟩ := x
        have e : q.2.1 = xk := e
        subst e
        have := (Pil.get_iff hs.nd _ _).2 h1
        rw [hr] at this; injection this with this; rw [this]
      by_cases hk : q.2.1 ∈ Pil.keys sq
      · obtain ⟨r', hr'⟩ := Pil.mem_keys.1 hk
        obtain ⟨h2, q2, hq2, e2⟩ := (h _).1 hr'
        exact .inl ⟨h1, q2, hq2, by rw [hx]; exact e2⟩
      · exact .inr ⟨hx, hk⟩
    · exact .inl ⟨h1, q, hq, e⟩
theorem From2.start (s : List It) (l : List Opi) : From2 s l l.length [] := fun x => by rw [List.drop_length]; simp
theorem From2.all {s sq : List It} {l : List Opi} (h : From2 s l 0 sq) (hs : Pil.Srt s) (hq : Pil.Srt sq) (hl : s = pushesM l) : sq = s := by
  refine Pil.ext hq.up hs.up fun x => ?_
  rw [h x, List.drop_zero]
  refine ⟨fun h => h.1, fun hx => ⟨hx, ?_⟩⟩
  have := (pushesM_keys l x.1).1 (by rw [← hl]; exact Pil.mem_keys.2 ⟨x.2, hx⟩)
  exact this
theorem get_isSome_keys (s : List It) (key : Int) : (Pil.get s key).isSome = decide (key ∈ Pil.keys s) := by
  rw [Bool.eq_iff_iff, decide_eq_true_iff]
  exact Pil.get_some
end Go.Proofs.Ytojballaghkojaa
