/- Two tables that know nothing of one another, and two rows beside them (layer 6). -/
import Derived.Test.YtbkabjnklipmjaaTabJ
namespace Go.Proofs.Ytbkabjnklipmjaa
open Go.RowKit Go.Shelf
open Tbm (Kv)

/-- tables p and q, and two rows that are read, none in another -/
def Apt (n₀ : Nat) (w : World) (p q : Nat) (mp mq : List Kv) (A A' : Option Addr) (l l' : List Kv) : Prop :=
  ∃ F G, Tb w F p mp ∧ Tb w G q mq ∧ (∀ k, F k → n₀ ≤ k) ∧ (∀ k, G k → n₀ ≤ k) ∧ (¬ F q ∧ ¬ G p) ∧
    Prs w w.heap.size A l ∧ (∀ ad, A = some ad → ad.block < w.heap.size ∧ ¬ F ad.block ∧ ¬ G ad.block) ∧
    Prs w w.heap.size A' l' ∧ (∀ ad, A' = some ad → ad.block < w.heap.size ∧ ¬ F ad.block ∧ ¬ G ad.block)
theorem Apt.below {n₀ : Nat} {w w' : World} {p q : Nat} {mp mq : List Kv} {A A' : Option Addr} {l l' : List Kv} (h : Apt n₀ w p q mp mq A A' l l') (hb : Below w.heap.size w w') : Apt n₀ w' p q mp mq A A' l l' := by
  obtain ⟨F, G, t1, t2, f1, f2, hd, r1, a1, r2, a2⟩ := h
  exact ⟨F, G, t1.below hb, t2.below hb, f1, f2, hd, (r1.below hb (Nat.le_refl _)).more hb.size, fun ad e => ⟨Nat.lt_of_lt_of_le (a1 ad e).1 hb.size, (a1 ad e).2⟩, (r2.below hb (Nat.le_refl _)).more hb.size, fun ad e => ⟨Nat.lt_of_lt_of_le (a2 ad e).1 hb.size, (a2 ad e).2⟩⟩
theorem Apt.p {n₀ : Nat} {w : World} {p q : Nat} {mp mq : List Kv} {A A' : Option Addr} {l l' : List Kv} (h : Apt n₀ w p q mp mq A A' l l') : TbO n₀ w p mp := by
  obtain ⟨F, G, t1, _, f1, _⟩ := h
  exact ⟨F, t1, f1⟩
theorem Apt.q {n₀ : Nat} {w : World} {p q : Nat} {mp mq : List Kv} {A A' : Option Addr} {l l' : List Kv} (h : Apt n₀ w p q mp mq A A' l l') : TbO n₀ w q mq := by
  obtain ⟨F, G, _, t2, _, f2, _⟩ := h
  exact ⟨G, t2, f2⟩
theorem Apt.row {n₀ : Nat} {w : World} {p q : Nat} {mp mq : List Kv} {A A' : Option Addr} {l l' : List Kv} (h : Apt n₀ w p q mp mq A A' l l') : Prs w w.heap.size A l ∧ Prs w w.heap.size A' l' := by
  obtain ⟨F, G, _, _, _, _, _, r1, _, r2, _⟩ := h
  exact ⟨r1, r2⟩
theorem Apt.swap {n₀ : Nat} {w : World} {p q : Nat} {mp mq : List Kv} {A A' : Option Addr} {l l' : List Kv} (h : Apt n₀ w p q mp mq A A' l l') : Apt n₀ w q p mq mp A A' l l' := by
  obtain ⟨F, G, t1, t2, f1, f2, hd, r1, a1, r2, a2⟩ := h
  exact ⟨G, F, t2, t1, f2, f1, ⟨hd.2, hd.1⟩, r1, fun ad e => ⟨(a1 ad e).1, (a1 ad e).2.2, (a1 ad e).2.1⟩, r2, fun ad e => ⟨(a2 ad e).1, (a2 ad e).2.2, (a2 ad e).2.1⟩⟩
/-- a new table beside an elder one -/
theorem Apt.mk {n₀ : Nat} {w w' : World} {p q : Nat} {mp mq : List Kv} (h : TbO n₀ w p mp) (hn : n₀ ≤ w.heap.size) (hb : Below w.heap.size w w') (k : TbO w.heap.size w' q mq) : Apt n₀ w' p q mp mq none none [] [] := by
  obtain ⟨F, t1, f1⟩ := h
  obtain ⟨G, t2, f2⟩ := k
  exact ⟨F, G, t1.below hb, t2, f1, fun k hk => Nat.le_trans hn (f2 k hk), ⟨fun a => by have := t1.lt q a; have := f2 q t2.self; omega, fun b => by have := t1.lt p t1.self; have := f2 p b; omega⟩, Rd.none_ _ _ _, (fun _ h => by cases h), Rd.none_ _ _ _, (fun _ h => by cases h)⟩
theorem apt_Copy {n₀ : Nat} {w : World} {p : Nat} {m : List Kv} (h : TbO n₀ w p m) (hn : n₀ ≤ w.heap.size) (hm : m.length ≤ 10000) :
    Calls Try.prog 24 #[ptr p] w fun e w' => ∃ q, e = .returned (ptr q) ∧ Apt n₀ w' p q m m none none [] [] ∧ Below w.heap.size w w' := by
  obtain ⟨F, t1, f1⟩ := h
  refine (p_Copy t1 hm).mono ?_
  rintro e w' ⟨q, he, hq, ⟨G, t2, g⟩, hb⟩
  exact ⟨q, he, ⟨F, G, t1.below hb, t2, f1, fun k hk => by rcases g k hk with h | h; exact f1 k h.1; omega, ⟨fun a => by have := t1.lt q a; omega, fun b => by rcases g p b with h | h; exact h.2 rfl; have := t1.lt p t1.self; omega⟩, Rd.none_ _ _ _, (fun _ h => by cases h), Rd.none_ _ _ _, (fun _ h => by cases h)⟩, hb⟩
/-- a new row in the place of the first; of the second -/
theorem Apt.row1 {n₀ : Nat} {w w' : World} {p q : Nat} {mp mq : List Kv} {A A' : Option Addr} {l l' : List Kv} (h : Apt n₀ w p q mp mq A A' l l') (hb : Below w.heap.size w w') {A1 : Option Addr} {l1 : List Kv} (r : Prs w' w'.heap.size A1 l1) (ha : ∀ ad, A1 = some ad → w.heap.size ≤ ad.block ∧ ad.block < w'.heap.size) : Apt n₀ w' p q mp mq A1 A' l1 l' := by
  obtain ⟨F, G, t1, t2, f1, f2, hd, r1, a1, r2, a2⟩ := h
  exact ⟨F, G, t1.below hb, t2.below hb, f1, f2, hd, r, fun ad e => ⟨(ha ad e).2, fun hf => by have := t1.lt _ hf; have := (ha ad e).1; omega, fun hf => by have := t2.lt _ hf; have := (ha ad e).1; omega⟩,
    (r2.below hb (Nat.le_refl _)).more hb.size, fun ad e => ⟨Nat.lt_of_lt_of_le (a2 ad e).1 hb.size, (a2 ad e).2⟩⟩
theorem Apt.row2 {n₀ : Nat} {w w' : World} {p q : Nat} {mp mq : List Kv} {A A' : Option Addr} {l l' : List Kv} (h : Apt n₀ w p q mp mq A A' l l') (hb : Below w.heap.size w w') {A1 : Option Addr} {l1 : List Kv} (r : Prs w' w'.heap.size A1 l1) (ha : ∀ ad, A1 = some ad → w.heap.size ≤ ad.block ∧ ad.block < w'.heap.size) : Apt n₀ w' p q mp mq A A1 l l1 := by
  obtain ⟨F, G, t1, t2, f1, f2, hd, r1, a1, r2, a2⟩ := h
  exact ⟨F, G, t1.below hb, t2.below hb, f1, f2, hd, (r1.below hb (Nat.le_refl _)).more hb.size, fun ad e => ⟨Nat.lt_of_lt_of_le (a1 ad e).1 hb.size, (a1 ad e).2⟩,
    r, fun ad e => ⟨(ha ad e).2, fun hf => by have := t1.lt _ hf; have := (ha ad e).1; omega, fun hf => by have := t2.lt _ hf; have := (ha ad e).1; omega⟩⟩
/-- the first table is changed -/
theorem Apt.to {n₀ : Nat} {w w' : World} {p q : Nat} {mp' mq : List Kv} {A A' : Option Addr} {l l' : List Kv} {F G : Nat → Prop} (hn : n₀ ≤ w.heap.size) (t2 : Tb w G q mq) (f1 : ∀ k, F k → n₀ ≤ k) (f2 : ∀ k, G k → n₀ ≤ k) (hd : ¬ F q ∧ ¬ G p)
    (r1 : Prs w w.heap.size A l) (a1 : ∀ ad, A = some ad → ad.block < w.heap.size ∧ ¬ F ad.block ∧ ¬ G ad.block) (r2 : Prs w w.heap.size A' l') (a2 : ∀ ad, A' = some ad → ad.block < w.heap.size ∧ ¬ F ad.block ∧ ¬ G ad.block) (ht : TbTo F p mp' w w') : Apt n₀ w' p q mp' mq A A' l l' := by
  have hb1 := fun ad e => ht.block (a1 ad e).1 (a1 ad e).2.1
  have hb2 := fun ad e => ht.block (a2 ad e).1 (a2 ad e).2.1
  obtain ⟨⟨F', t1', g⟩, hk⟩ := ht
  refine ⟨F', G, t1', t2.keep fun k hG => hk.block k (t2.lt k hG) (fun e => hd.2 (e ▸ hG)), fun k h => by rcases g k h with h | h; exact f1 k h; omega, f2, ⟨fun h => by rcases g q h with h | h; exact hd.1 h; have := t2.lt q t2.self; omega, hd.2⟩, ?_, ?_, ?_, ?_⟩
  · exact (Rd.kept r1 hb1).more hk.size
  · exact fun ad e => ⟨Nat.lt_of_lt_of_le (a1 ad e).1 hk.size, fun h => by rcases g _ h with h | h; exact (a1 ad e).2.1 h; have := (a1 ad e).1; omega, (a1 ad e).2.2⟩
  · exact (Rd.kept r2 hb2).more hk.size
  · exact fun ad e => ⟨Nat.lt_of_lt_of_le (a2 ad e).1 hk.size, fun h => by rcases g _ h with h | h; exact (a2 ad e).2.1 h; have := (a2 ad e).1; omega, (a2 ad e).2.2⟩
theorem apt_put {n₀ : Nat} {w : World} {p q : Nat} {mp mq : List Kv} {A A' : Option Addr} {l l' : List Kv} (h : Apt n₀ w p q mp mq A A' l l') (hn : n₀ ≤ w.heap.size) (hm : mp.length ≤ 10000) (key v : List UInt8) :
    Calls Try.prog 13 #[ptr p, txt key, txt v] w fun e w' => e = .returned (.tuple #[]) ∧ Apt n₀ w' p q (Tbm.put mp key v) mq A A' l l' ∧ Below n₀ w w' := by
  obtain ⟨F, G, t1, t2, f1, f2, hd, r1, a1, r2, a2⟩ := h
  refine (p_Put t1 hm key v).mono ?_
  rintro e w' ⟨he, ht⟩
  exact ⟨he, Apt.to hn t2 f1 f2 hd r1 a1 r2 a2 ht, (ht.below f1 hn).1⟩
theorem apt_del {n₀ : Nat} {w : World} {p q : Nat} {mp mq : List Kv} {A A' : Option Addr} {l l' : List Kv} (h : Apt n₀ w p q mp mq A A' l l') (hn : n₀ ≤ w.heap.size) (hm : mp.length ≤ 10000) (key : List UInt8) :
    Calls Try.prog 15 #[ptr p, txt key] w fun e w' => e = .returned (.bool (Tbm.get mp key).isSome) ∧ Apt n₀ w' p q (Tbm.del mp key) mq A A' l l' ∧ Below n₀ w w' := by
  obtain ⟨F, G, t1, t2, f1, f2, hd, r1, a1, r2, a2⟩ := h
  refine (p_Delete t1 hm key).mono ?_
  rintro e w' ⟨he, ht⟩
  exact ⟨he, Apt.to hn t2 f1 f2 hd r1 a1 r2 a2 ht, (ht.below f1 hn).1⟩

/-! ### many things put, all keys deleted -/
def putsM (m : List Kv) (l : List Opv) : List Kv := l.foldl (fun m o => Tbm.put m o.2.1 (o.2.2 ++ [120])) m
theorem putsM_next (m : List Kv) (l : List Opv) (k : Nat) (o : Opv) (h : l[k]? = some o) : putsM m (l.take (k + 1)) = Tbm.put (putsM m (l.take k)) o.2.1 (o.2.2 ++ [120]) := by
  unfold putsM
  rw [List.take_add_one, h, List.foldl_append]
  rfl
theorem putsM_facts {m : List Kv} (hm : Tbm.Srt m) (l : List Opv) (k : Nat) : Tbm.Srt (putsM m (l.take k)) ∧ (putsM m (l.take k)).length ≤ m.length + k := by
  induction k with
  | zero => rw [List.take_zero]; exact ⟨hm, Nat.le_refl _⟩
  | succ k ih =>
    cases h : l[k]? with
    | none =>
      rw [List.take_of_length_le (by rw [List.getElem?_eq_none_iff] at h; omega)]
      rw [List.take_of_length_le (by rw [List.getElem?_eq_none_iff] at h; omega)] at ih
      exact ⟨ih.1, by omega⟩
    | some o =>
      rw [putsM_next m l k o h]
      exact ⟨ih.1.put _ _, by rw [Tbm.len_put ih.1]; split <;> omega⟩
def delsM (m l : List Kv) : List Kv := l.foldl (fun m p => Tbm.del m p.1) m
theorem delsM_next (m l : List Kv) (k : Nat) (p : Kv) (h : l[k]? = some p) : delsM m (l.take (k + 1)) = Tbm.del (delsM m (l.take k)) p.1 := by
  unfold delsM
  rw [List.take_add_one, h, List.foldl_append]
  rfl
theorem delsM_mem (m l : List Kv) (q : Kv) : q ∈ delsM m l → q ∈ m ∧ ∀ p ∈ l, q.1 ≠ p.1 := by
  unfold delsM
  induction l generalizing m with
  | nil => exact fun h => ⟨h, fun _ h => by cases h⟩
  | cons p r ih =>
    intro h
    obtain ⟨h1, h2⟩ := ih (Tbm.del m p.1) h
    unfold Tbm.del at h1
    obtain ⟨h3, h4⟩ := List.mem_filter.1 h1
    refine ⟨h3, fun x hx => ?_⟩
    rcases List.mem_cons.1 hx with rfl | hx
    · simpa using h4
    · exact h2 x hx
theorem delsM_all (m : List Kv) : delsM m m = [] := by
  rw [List.eq_nil_iff_forall_not_mem]
  intro q hq
  obtain ⟨h1, h2⟩ := delsM_mem m m q hq
  exact h2 q h1 rfl
theorem delsM_len (m l : List Kv) : (delsM m l).length ≤ m.length := by
  unfold delsM
  induction l generalizing m with
  | nil => exact Nat.le_refl _
  | cons p r ih => exact Nat.le_trans (ih _) (List.length_filter_le _ _)
end Go.Proofs.Ytbkabjnklipmjaa
