/- Mathematics of layer 6's code: a tree of keys with values, told as a rising row. No program is spoken of here. -/
import Derived.Test.YtbkabjnklipmjaaTabM
namespace Go.Proofs.Ytbkabjnklipmjaa.Tbm

/-- a tree of keys with values -/
inductive Tr where
  | leaf
  | node (l : Tr) (k v : List UInt8) (r : Tr)
def Tr.flat : Tr → List Kv
  | .leaf => []
  | .node l k v r => l.flat ++ (k, v) :: r.flat
theorem Tr.flat_node (l r : Tr) (k v : List UInt8) : (Tr.node l k v r).flat = l.flat ++ (k, v) :: r.flat := rfl
theorem Tr.len_node (l r : Tr) (k v : List UInt8) : (Tr.node l k v r).flat.length = l.flat.length + 1 + r.flat.length := by
  rw [Tr.flat_node, List.length_append, List.length_cons]; omega

section
variable {l r : List Kv} {p : Kv}
theorem srt_mid (h : Srt (l ++ p :: r)) : Srt l ∧ Srt r ∧ (∀ q ∈ l, less q.1 p.1 = true) ∧ (∀ q ∈ r, less p.1 q.1 = true) := by
  obtain ⟨h1, h2, h3⟩ := List.pairwise_append.1 h
  exact ⟨h1, Srt.tail h2, fun q hq => h3 q hq p (List.mem_cons_self ..), Srt.head h2⟩
theorem put_lt (h : Srt (l ++ p :: r)) {key : List UInt8} (v : List UInt8) (hk : less key p.1 = true) : put (l ++ p :: r) key v = put l key v ++ p :: r := by
  rw [put_eq, put_eq]
  induction l with
  | nil =>
    show (if less p.1 key then p :: putR key v r else if p.1 == key then (key, v) :: r else (key, v) :: p :: r) = (key, v) :: p :: r
    rw [if_neg (by rw [less_asymm hk]; exact Bool.false_ne_true), if_neg (by rw [beq_iff_eq]; exact fun e => less_ne hk e.symm)]
  | cons q l ih =>
    show (if less q.1 key then q :: putR key v (l ++ p :: r) else if q.1 == key then (key, v) :: (l ++ p :: r) else (key, v) :: q :: (l ++ p :: r)) = (if less q.1 key then q :: putR key v l else if q.1 == key then (key, v) :: l else (key, v) :: q :: l) ++ p :: r
    rw [ih (Srt.tail h)]
    split
    · rfl
    · split <;> rfl
theorem put_gt (h : Srt (l ++ p :: r)) {key : List UInt8} (v : List UInt8) (hk : less p.1 key = true) : put (l ++ p :: r) key v = l ++ p :: put r key v := by
  rw [put_eq, put_eq]
  induction l with
  | nil =>
    show (if less p.1 key then p :: putR key v r else _) = _
    rw [if_pos hk]; rfl
  | cons q l ih =>
    have hq := less_trans ((srt_mid h).2.2.1 q (List.mem_cons_self ..)) hk
    show (if less q.1 key then q :: putR key v (l ++ p :: r) else _) = _
    rw [if_pos hq, ih (Srt.tail h)]; rfl
theorem put_at (h : Srt (l ++ p :: r)) (v : List UInt8) : put (l ++ p :: r) p.1 v = l ++ (p.1, v) :: r := by
  rw [put_eq]
  induction l with
  | nil =>
    show (if less p.1 p.1 then p :: putR p.1 v r else if p.1 == p.1 then (p.1, v) :: r else (p.1, v) :: p :: r) = _
    rw [if_neg (by rw [less_irrefl]; exact Bool.false_ne_true), if_pos (by simp)]; rfl
  | cons q l ih =>
    have hq := (srt_mid h).2.2.1 q (List.mem_cons_self ..)
    show (if less q.1 p.1 then q :: putR p.1 v (l ++ p :: r) else _) = _
    rw [if_pos hq, ih (Srt.tail h)]; rfl
theorem get_lt (h : Srt (l ++ p :: r)) {key : List UInt8} (hk : less key p.1 = true) : get (l ++ p :: r) key = get l key := by
  induction l with
  | nil =>
    obtain ⟨_, _, _, h4⟩ := srt_mid h
    refine Eq.trans (get_none fun q hq e => ?_) rfl
    rcases List.mem_cons.1 hq with rfl | hq
    · exact less_ne hk e.symm
    · exact less_ne (less_trans hk (h4 q hq)) e.symm
  | cons q l ih => rw [List.cons_append, get_cons, get_cons, ih (Srt.tail h)]
theorem get_gt (h : Srt (l ++ p :: r)) {key : List UInt8} (hk : less p.1 key = true) : get (l ++ p :: r) key = get r key := by
  induction l with
  | nil => rw [List.nil_append, get_cons, if_neg (less_ne hk)]
  | cons q l ih =>
    have hq := less_trans ((srt_mid h).2.2.1 q (List.mem_cons_self ..)) hk
    rw [List.cons_append, get_cons, if_neg (less_ne hq), ih (Srt.tail h)]
theorem get_at (h : Srt (l ++ p :: r)) : get (l ++ p :: r) p.1 = some p.2 := by
  induction l with
  | nil => rw [List.nil_append, get_cons, if_pos rfl]
  | cons q l ih =>
    have hq := (srt_mid h).2.2.1 q (List.mem_cons_self ..)
    rw [List.cons_append, get_cons, if_neg (less_ne hq), ih (Srt.tail h)]
theorem del_none {m : List Kv} {key : List UInt8} (h : ∀ q ∈ m, q.1 ≠ key) : del m key = m := by
  unfold del
  rw [List.filter_eq_self]
  intro q hq
  simpa using h q hq
theorem del_app (a b : List Kv) (key : List UInt8) : del (a ++ b) key = del a key ++ del b key := List.filter_append ..
theorem del_lt (h : Srt (l ++ p :: r)) {key : List UInt8} (hk : less key p.1 = true) : del (l ++ p :: r) key = del l key ++ p :: r := by
  obtain ⟨_, _, _, h4⟩ := srt_mid h
  rw [del_app, del_none (m := p :: r)]
  intro q hq e
  rcases List.mem_cons.1 hq with rfl | hq
  · exact less_ne hk e.symm
  · exact less_ne (less_trans hk (h4 q hq)) e.symm
theorem del_gt (h : Srt (l ++ p :: r)) {key : List UInt8} (hk : less p.1 key = true) : del (l ++ p :: r) key = l ++ p :: del r key := by
  obtain ⟨_, _, h3, _⟩ := srt_mid h
  rw [del_app, del_none (m := l) (fun q hq e => less_ne (less_trans (h3 q hq) hk) e)]
  congr 1
  exact List.filter_cons_of_pos (by simpa using less_ne hk)
theorem del_at (h : Srt (l ++ p :: r)) : del (l ++ p :: r) p.1 = l ++ r := by
  obtain ⟨_, _, h3, h4⟩ := srt_mid h
  rw [del_app, del_none (m := l) (fun q hq e => less_ne (h3 q hq) e)]
  congr 1
  have e : del (p :: r) p.1 = del r p.1 := List.filter_cons_of_neg (by simp)
  rw [e, del_none (fun q hq e => less_ne (h4 q hq) e.symm)]
theorem from_gt (h : Srt (l ++ p :: r)) {key : List UInt8} (hk : less p.1 key = true) : from_ (l ++ p :: r) key = from_ r key := by
  unfold from_
  induction l with
  | nil => rw [List.nil_append, pos_cons, if_pos hk, List.drop_succ_cons]
  | cons q l ih =>
    have hq := less_trans ((srt_mid h).2.2.1 q (List.mem_cons_self ..)) hk
    rw [List.cons_append, pos_cons, if_pos hq, List.drop_succ_cons, ih (Srt.tail h)]
theorem from_le {key : List UInt8} (hk : less p.1 key = false) : from_ (l ++ p :: r) key = from_ l key ++ p :: r := by
  unfold from_
  induction l with
  | nil => rw [List.nil_append, pos_cons, if_neg (by rw [hk]; exact Bool.false_ne_true)]; rfl
  | cons q l ih =>
    rw [List.cons_append, pos_cons, pos_cons]
    split
    · rw [List.drop_succ_cons, ih, List.drop_succ_cons]
    · rfl
theorem from_all (key : List UInt8) {m : List Kv} (h : ∀ x ∈ m, less x.1 key = false) : from_ m key = m := by
  unfold from_
  cases m with
  | nil => rfl
  | cons p r => rw [pos_cons, if_neg (by rw [h p (List.mem_cons_self ..)]; exact Bool.false_ne_true)]; rfl
theorem less_trans_le {a b key : List UInt8} (h : less a key = false) (k : less a b = true) : less b key = false := by
  cases hb : less b key with
  | false => rfl
  | true => rw [less_trans k hb] at h; cases h
/-- the i-th of a row; none below 0 -/
def nth (m : List Kv) (i : Int) : Option Kv := if 0 ≤ i then m[i.toNat]? else none
theorem nth_lt {i : Int} (hi : i < (l.length : Int)) : nth (l ++ p :: r) i = nth l i := by
  unfold nth
  split
  · rw [List.getElem?_append_left (by omega)]
  · rfl
theorem nth_at : nth (l ++ p :: r) (l.length : Int) = some p := by
  unfold nth
  rw [if_pos (by omega), Int.toNat_natCast, List.getElem?_append_right (Nat.le_refl _), Nat.sub_self]; rfl
theorem nth_gt {i : Int} (hi : (l.length : Int) < i) : nth (l ++ p :: r) i = nth r (i - ((l.length : Int) + 1)) := by
  unfold nth
  rw [if_pos (by omega), if_pos (by omega), List.getElem?_append_right (by omega)]
  rw [show i.toNat - l.length = (i - ((l.length : Int) + 1)).toNat + 1 by omega, List.getElem?_cons_succ]
end
theorem nth_nil (i : Int) : nth [] i = none := by
  unfold nth
  split <;> rfl
theorem nth_zero (p : Kv) (r : List Kv) : nth (p :: r) 0 = some p := rfl
theorem nth_none {m : List Kv} {i : Int} (h : nth m i = none) (h0 : 0 ≤ i) : (m.length : Int) ≤ i := by
  unfold nth at h
  rw [if_pos h0, List.getElem?_eq_none_iff] at h
  omega
end Go.Proofs.Ytbkabjnklipmjaa.Tbm
