/- Mathematics of layer 6 (table): maps as rising rows of keys with values. No program is spoken of here. -/
import GoSem.Op.String
namespace Go.Proofs.Ytbkabjnklipmjaa.Tbm

def less (a b : List UInt8) : Bool := Op.bytesLess a b
theorem less_nil (a : List UInt8) : less a [] = false := by unfold less Op.bytesLess; cases a <;> rfl
theorem less_cons (a b : UInt8) (x y : List UInt8) : less (a :: x) (b :: y) = (decide (a < b) || (a == b && less x y)) := rfl
theorem less_irrefl (a : List UInt8) : less a a = false := by
  induction a with
  | nil => rfl
  | cons x r ih =>
    rw [less_cons, ih, Bool.and_false, Bool.or_false, decide_eq_false_iff_not, UInt8.lt_iff_toNat_lt]
    omega
theorem less_trans {a b c : List UInt8} (h : less a b = true) (k : less b c = true) : less a c = true := by
  induction a generalizing b c with
  | nil =>
    cases c with
    | nil => rw [less_nil] at k; cases k
    | cons z t => rfl
  | cons x r ih =>
    cases b with
    | nil => rw [less_nil] at h; cases h
    | cons y s =>
      cases c with
      | nil => rw [less_nil] at k; cases k
      | cons z t =>
        rw [less_cons, Bool.or_eq_true, decide_eq_true_iff, Bool.and_eq_true, beq_iff_eq, UInt8.lt_iff_toNat_lt] at h k ⊢
        rcases h with h | ⟨rfl, h⟩
        · rcases k with k | ⟨rfl, k⟩
          · exact .inl (by omega)
          · exact .inl h
        · rcases k with k | ⟨rfl, k⟩
          · exact .inl k
          · exact .inr ⟨rfl, ih h k⟩
theorem less_tri (a b : List UInt8) : less a b = true ∨ a = b ∨ less b a = true := by
  induction a generalizing b with
  | nil =>
    cases b with
    | nil => exact .inr (.inl rfl)
    | cons y s => exact .inl rfl
  | cons x r ih =>
    cases b with
    | nil => exact .inr (.inr rfl)
    | cons y s =>
      rw [less_cons, less_cons, Bool.or_eq_true, Bool.or_eq_true, decide_eq_true_iff, decide_eq_true_iff, Bool.and_eq_true, Bool.and_eq_true, beq_iff_eq, beq_iff_eq, UInt8.lt_iff_toNat_lt, UInt8.lt_iff_toNat_lt]
      rcases Nat.lt_trichotomy x.toNat y.toNat with h | h | h
      · exact .inl (.inl h)
      · obtain rfl : x = y := UInt8.toNat_inj.1 h
        rcases ih s with k | rfl | k
        · exact .inl (.inr ⟨rfl, k⟩)
        · exact .inr (.inl rfl)
        · exact .inr (.inr (.inr ⟨rfl, k⟩))
      · exact .inr (.inr (.inl h))
theorem less_ne {a b : List UInt8} (h : less a b = true) : a ≠ b := by
  rintro rfl
  rw [less_irrefl] at h; cases h
theorem less_asymm {a b : List UInt8} (h : less a b = true) : less b a = false := by
  cases k : less b a with
  | false => rfl
  | true => have := less_trans h k; rw [less_irrefl] at this; cases this

abbrev Kv := List UInt8 × List UInt8
def pos (key : List UInt8) (m : List Kv) : Nat := (m.takeWhile fun p => less p.1 key).length
def hasAt (key : List UInt8) (m : List Kv) : Bool := (m[pos key m]?).any fun p => p.1 == key
def put (m : List Kv) (key v : List UInt8) : List Kv := m.take (pos key m) ++ (key, v) :: m.drop (if hasAt key m then pos key m + 1 else pos key m)
def get (m : List Kv) (key : List UInt8) : Option (List UInt8) := (m.find? fun p => p.1 == key).map (·.2)
def del (m : List Kv) (key : List UInt8) : List Kv := m.filter fun p => p.1 != key
def from_ (m : List Kv) (key : List UInt8) : List Kv := m.drop (pos key m)
def Srt (m : List Kv) : Prop := m.Pairwise fun p q => less p.1 q.1 = true

theorem pos_nil (key : List UInt8) : pos key [] = 0 := rfl
theorem pos_cons (key : List UInt8) (p : Kv) (r : List Kv) : pos key (p :: r) = if less p.1 key then pos key r + 1 else 0 := by
  unfold pos
  rw [List.takeWhile_cons]
  split <;> simp
theorem pos_le (key : List UInt8) (m : List Kv) : pos key m ≤ m.length := by
  induction m with
  | nil => exact Nat.le_refl _
  | cons p r ih => rw [pos_cons]; split <;> simp; omega
/-- so many keys stand ahead -/
theorem pos_of (key : List UInt8) (m : List Kv) (i : Nat) (hi : i ≤ m.length) (h : ∀ j p, j < i → m[j]? = some p → less p.1 key = true) (hn : ∀ p, m[i]? = some p → less p.1 key = false) : pos key m = i := by
  induction m generalizing i with
  | nil => rw [pos_nil]; simp at hi; omega
  | cons p r ih =>
    cases i with
    | zero =>
      have := hn p rfl
      rw [pos_cons, this]; rfl
    | succ i =>
      have h0 := h 0 p (Nat.succ_pos _) rfl
      rw [pos_cons, h0, if_pos rfl, ih i (by simpa using hi) (fun j q hj hq => h (j + 1) q (by omega) hq) (fun q hq => hn q hq)]
def putR (key v : List UInt8) : List Kv → List Kv
  | [] => [(key, v)]
  | p :: r => if less p.1 key then p :: putR key v r else if p.1 == key then (key, v) :: r else (key, v) :: p :: r
theorem put_eq (m : List Kv) (key v : List UInt8) : put m key v = putR key v m := by
  induction m with
  | nil => rfl
  | cons p r ih =>
    unfold put hasAt at ih ⊢
    rw [pos_cons]
    show _ = if less p.1 key then p :: putR key v r else if p.1 == key then (key, v) :: r else (key, v) :: p :: r
    by_cases h : less p.1 key = true
    · rw [if_pos h, if_pos h, ← ih, List.getElem?_cons_succ]
      split <;> rfl
    · rw [if_neg h, if_neg h]
      by_cases h2 : (p.1 == key) = true
      · rw [if_pos h2]
        simp [h2]
      · rw [if_neg h2]
        simp [h2]
theorem get_cons (p : Kv) (r : List Kv) (key : List UInt8) : get (p :: r) key = if p.1 = key then some p.2 else get r key := by
  unfold get
  rw [List.find?_cons]
  by_cases h : p.1 = key
  · rw [if_pos h, beq_iff_eq.2 h]; rfl
  · rw [if_neg h, beq_eq_false_iff_ne.2 h]
theorem Srt.tail {p : Kv} {r : List Kv} (h : Srt (p :: r)) : Srt r := (List.pairwise_cons.1 h).2
theorem Srt.head {p : Kv} {r : List Kv} (h : Srt (p :: r)) : ∀ q ∈ r, less p.1 q.1 = true := (List.pairwise_cons.1 h).1
theorem get_none {m : List Kv} {key : List UInt8} (h : ∀ p ∈ m, p.1 ≠ key) : get m key = none := by
  unfold get
  rw [List.find?_eq_none.2 fun p hp => by rw [beq_eq_false_iff_ne.2 (h p hp)]; exact Bool.false_ne_true]
  rfl
theorem get_put (m : List Kv) (key v o : List UInt8) : get (put m key v) o = if key = o then some v else get m o := by
  rw [put_eq]
  induction m with
  | nil => exact get_cons _ _ _
  | cons p r ih =>
    show get (if less p.1 key then p :: putR key v r else if p.1 == key then (key, v) :: r else (key, v) :: p :: r) o = _
    by_cases h : less p.1 key = true
    · rw [if_pos h, get_cons, ih, get_cons]
      by_cases hp : p.1 = o
      · rw [if_pos hp, if_pos hp, if_neg (fun e => less_ne h (hp.trans e.symm))]
      · rw [if_neg hp, if_neg hp]
    · rw [if_neg h]
      by_cases h2 : (p.1 == key) = true
      · rw [if_pos h2, get_cons, get_cons]
        have e : p.1 = key := beq_iff_eq.1 h2
        by_cases hk : key = o
        · rw [if_pos hk, if_pos hk]
        · rw [if_neg hk, if_neg hk, if_neg (fun e2 => hk (e.symm.trans e2))]
      · rw [if_neg h2, get_cons]
theorem mem_putR {key v : List UInt8} {m : List Kv} {q : Kv} (h : q ∈ putR key v m) : q = (key, v) ∨ q ∈ m := by
  induction m with
  | nil => exact .inl (by simpa [putR] using h)
  | cons p r ih =>
    unfold putR at h
    split at h
    · rcases List.mem_cons.1 h with rfl | h
      · exact .inr (List.mem_cons_self ..)
      · exact (ih h).imp id (List.mem_cons_of_mem _)
    · split at h
      · rcases List.mem_cons.1 h with rfl | h
        · exact .inl rfl
        · exact .inr (List.mem_cons_of_mem _ h)
      · rcases List.mem_cons.1 h with rfl | h
        · exact .inl rfl
        · exact .inr h
theorem Srt.put {m : List Kv} (h : Srt m) (key v : List UInt8) : Srt (put m key v) := by
  rw [put_eq]
  induction m with
  | nil => exact List.pairwise_singleton _ _
  | cons p r ih =>
    unfold putR
    split
    · rename_i hp
      refine List.pairwise_cons.2 ⟨fun q hq => ?_, ih h.tail⟩
      rcases mem_putR hq with rfl | hq
      · exact hp
      · exact h.head q hq
    · rename_i hp
      split
      · rename_i he
        have e : p.1 = key := beq_iff_eq.1 he
        exact List.pairwise_cons.2 ⟨fun q hq => by rw [← e]; exact h.head q hq, h.tail⟩
      · rename_i he
        have hk : less key p.1 = true := by
          rcases less_tri p.1 key with k | k | k
          · exact absurd k hp
          · exact absurd (beq_iff_eq.2 k) he
          · exact k
        refine List.pairwise_cons.2 ⟨fun q hq => ?_, h⟩
        rcases List.mem_cons.1 hq with rfl | hq
        · exact hk
        · exact less_trans hk (h.head q hq)
theorem Srt.del {m : List Kv} (h : Srt m) (key : List UInt8) : Srt (del m key) := List.Pairwise.filter _ h
theorem Srt.from_ {m : List Kv} (h : Srt m) (key : List UInt8) : Srt (from_ m key) := h.sublist (List.drop_sublist _ _)
theorem get_del (m : List Kv) (key o : List UInt8) : get (del m key) o = if key = o then none else get m o := by
  induction m with
  | nil => unfold del get; simp
  | cons p r ih =>
    by_cases h : p.1 = key
    · have e : del (p :: r) key = del r key := List.filter_cons_of_neg (by simp [h])
      rw [e, ih, get_cons]
      by_cases hk : key = o
      · rw [if_pos hk, if_pos hk]
      · rw [if_neg hk, if_neg hk, if_neg (fun e2 => hk (h.symm.trans e2))]
    · have e : del (p :: r) key = p :: del r key := List.filter_cons_of_pos (by simp [h])
      rw [e, get_cons, get_cons, ih]
      by_cases hp : p.1 = o
      · rw [if_pos hp, if_pos hp, if_neg (fun e2 => h (hp.trans e2.symm))]
      · rw [if_neg hp, if_neg hp]
theorem get_some_iff (m : List Kv) (key : List UInt8) : (get m key).isSome = true ↔ ∃ p ∈ m, p.1 = key := by
  induction m with
  | nil => unfold get; simp
  | cons p r ih =>
    rw [get_cons]
    by_cases h : p.1 = key
    · rw [if_pos h]; exact ⟨fun _ => ⟨p, List.mem_cons_self .., h⟩, fun _ => rfl⟩
    · rw [if_neg h, ih]
      exact ⟨fun ⟨q, hq, e⟩ => ⟨q, List.mem_cons_of_mem _ hq, e⟩, fun ⟨q, hq, e⟩ => by
        rcases List.mem_cons.1 hq with rfl | hq
        · exact absurd e h
        · exact ⟨q, hq, e⟩⟩
theorem len_put {m : List Kv} (h : Srt m) (key v : List UInt8) : (put m key v).length = if (get m key).isSome then m.length else m.length + 1 := by
  rw [put_eq]
  induction m with
  | nil => rfl
  | cons p r ih =>
    unfold putR
    rw [get_cons]
    by_cases hp : less p.1 key = true
    · rw [if_pos hp, if_neg (less_ne hp), List.length_cons, ih h.tail, List.length_cons]
      split <;> rfl
    · rw [if_neg hp]
      by_cases he : (p.1 == key) = true
      · rw [if_pos he, if_pos (beq_iff_eq.1 he)]; rfl
      · have hne : p.1 ≠ key := fun e => he (beq_iff_eq.2 e)
        have hk : less key p.1 = true := by
          rcases less_tri p.1 key with k | k | k
          · exact absurd k hp
          · exact absurd k hne
          · exact k
        rw [if_neg he, if_neg hne, get_none (fun q hq e => by
          have := less_trans hk (h.head q hq)
          rw [e, less_irrefl] at this; cases this)]
        rfl
theorem len_del {m : List Kv} (h : Srt m) (key : List UInt8) : m.length = (del m key).length + if (get m key).isSome then 1 else 0 := by
  induction m with
  | nil => rfl
  | cons p r ih =>
    rw [get_cons]
    by_cases hp : p.1 = key
    · have e : del (p :: r) key = del r key := List.filter_cons_of_neg (by simp [hp])
      have e2 : get r key = none := get_none fun q hq e => by
        have := h.head q hq
        rw [hp, e, less_irrefl] at this; cases this
      have := ih h.tail
      rw [e2] at this
      rw [if_pos hp, e, List.length_cons, this]; rfl
    · have e : del (p :: r) key = p :: del r key := List.filter_cons_of_pos (by simp [hp])
      rw [if_neg hp, e, List.length_cons, List.length_cons, ih h.tail]
      omega
theorem hasAt_iff {m : List Kv} (h : Srt m) (key : List UInt8) : hasAt key m = (get m key).isSome := by
  induction m with
  | nil => rfl
  | cons p r ih =>
    have ih := ih h.tail
    unfold hasAt at ih ⊢
    rw [pos_cons, get_cons]
    by_cases hp : less p.1 key = true
    · rw [if_pos hp, if_neg (less_ne hp), List.getElem?_cons_succ, ih]
    · rw [if_neg hp, List.getElem?_cons_zero]
      by_cases he : p.1 = key
      · rw [if_pos he]; simp [he]
      · have hk : less key p.1 = true := by
          rcases less_tri p.1 key with k | k | k
          · exact absurd k hp
          · exact absurd k he
          · exact k
        rw [if_neg he, get_none (fun q hq e => by
          have := less_trans hk (h.head q hq)
          rw [e, less_irrefl] at this; cases this)]
        simp [he]
/-- from the empty key on all are told -/
theorem from_nil (m : List Kv) : from_ m [] = m := by
  have : pos [] m = 0 := by
    cases m with
    | nil => rfl
    | cons p r => rw [pos_cons, less_nil]; rfl
  unfold from_
  rw [this, List.drop_zero]
/-- two rising rows with the same values of all keys are one -/
theorem ext {a b : List Kv} (ha : Srt a) (hb : Srt b) (h : ∀ o, get a o = get b o) : a = b := by
  induction a generalizing b with
  | nil =>
    cases b with
    | nil => rfl
    | cons q s => have := h q.1; rw [get_cons, if_pos rfl] at this; cases this
  | cons p r ih =>
    cases b with
    | nil => have := h p.1; rw [get_cons, if_pos rfl] at this; cases this
    | cons q s =>
      have hpq : p.1 = q.1 := by
        rcases less_tri p.1 q.1 with k | k | k
        · have := h p.1
          rw [get_cons, if_pos rfl, get_none (fun x hx e => by
            rcases List.mem_cons.1 hx with rfl | hx
            · exact less_ne k e.symm
            · have := less_trans k (hb.head x hx); rw [e, less_irrefl] at this; cases this)] at this
          cases this
        · exact k
        · have := h q.1
          rw [get_cons q, if_pos rfl, get_none (fun x hx e => by
            rcases List.mem_cons.1 hx with rfl | hx
            · exact less_ne k e.symm
            · have := less_trans k (ha.head x hx); rw [e, less_irrefl] at this; cases this)] at this
          cases this
      have hv : p.2 = q.2 := by
        have := h p.1
        rw [get_cons, if_pos rfl, get_cons, if_pos hpq.symm] at this
        injection this
      have e : p = q := by cases p; cases q; simp at hpq hv; rw [hpq, hv]
      subst e
      congr 1
      refine ih ha.tail hb.tail fun o => ?_
      have := h o
      rw [get_cons, get_cons] at this
      by_cases ho : p.1 = o
      · rw [get_none (fun x hx e => by have := ha.head x hx; rw [ho, e, less_irrefl] at this; cases this), get_none (fun x hx e => by have := hb.head x hx; rw [ho, e, less_irrefl] at this; cases this)]
      · rwa [if_neg ho, if_neg ho] at this
theorem srt_nil : Srt [] := List.Pairwise.nil
end Go.Proofs.Ytbkabjnklipmjaa.Tbm
