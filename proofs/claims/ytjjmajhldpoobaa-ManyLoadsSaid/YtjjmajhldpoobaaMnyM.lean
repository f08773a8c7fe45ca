/- Mathematics of layer 16 (many): the blocks of a day, by how much a rule is passed. Nothing of a program is spoken of here. -/
import Derived.Test.YtjjmajhldpoobaaPerM
namespace Go.Proofs.Ytjjmajhldpoobaa.Whn

/-! ### times of a day as pairs: start, length -/
def prOf (x : Wh) : Int × Int := (x.s, x.l)
/-- does it stand ahead, or are they the same? -/
def leP (x y : Int × Int) : Bool := decide (x.1 < y.1 ∨ (x.1 = y.1 ∧ x.2 ≤ y.2))
theorem leP_iff (x y : Int × Int) : leP x y = true ↔ (x.1 < y.1 ∨ (x.1 = y.1 ∧ x.2 ≤ y.2)) := by unfold leP; rw [decide_eq_true_iff]
theorem leP_no (x y : Int × Int) : leP x y = false ↔ ¬ (x.1 < y.1 ∨ (x.1 = y.1 ∧ x.2 ≤ y.2)) := by unfold leP; rw [decide_eq_false_iff_not]
def insP (x : Int × Int) : List (Int × Int) → List (Int × Int)
  | [] => [x]
  | y :: l => if leP y x then y :: insP x l else x :: y :: l
def srtP (l : List (Int × Int)) : List (Int × Int) := l.foldl (fun acc x => insP x acc) []
def RisP (l : List (Int × Int)) : Prop := l.Pairwise fun x y => leP x y = true
theorem insP_perm (x : Int × Int) (l : List (Int × Int)) : (insP x l).Perm (x :: l) := by
  induction l with
  | nil => exact List.Perm.refl _
  | cons y l ih =>
    rw [insP]
    split
    · exact (List.Perm.cons y ih).trans (List.Perm.swap x y l)
    · exact List.Perm.refl _
theorem insP_ris {x : Int × Int} {l : List (Int × Int)} (h : RisP l) : RisP (insP x l) := by
  induction l with
  | nil => exact List.pairwise_singleton _ _
  | cons y l ih =>
    obtain ⟨h1, h2⟩ := List.pairwise_cons.1 h
    rw [insP]
    split
    · rename_i hy
      refine List.pairwise_cons.2 ⟨fun z hz => ?_, ih h2⟩
      rcases List.mem_cons.1 ((insP_perm x l).mem_iff.1 hz) with rfl | hz
      · exact hy
      · exact h1 z hz
    · rename_i hy
      have hy2 : leP y x = false := by simpa using hy
      rw [leP_no] at hy2
      refine List.pairwise_cons.2 ⟨fun z hz => ?_, h⟩
      rw [leP_iff]
      rcases List.mem_cons.1 hz with rfl | hz
      · omega
      · have := h1 z hz
        rw [leP_iff] at this
        omega
theorem srtP_foldl (l acc : List (Int × Int)) (h : RisP acc) : RisP (l.foldl (fun acc x => insP x acc) acc) ∧ (l.foldl (fun acc x => insP x acc) acc).Perm (acc ++ l) := by
  induction l generalizing acc with
  | nil => exact ⟨h, by rw [List.append_nil]; exact List.Perm.refl _⟩
  | cons x l ih =>
    obtain ⟨h1, h2⟩ := ih (insP x acc) (insP_ris h)
    refine ⟨h1, h2.trans ?_⟩
    have := (insP_perm x acc).append_right l
    refine this.trans ?_
    exact (List.perm_middle (l₁ := acc)).symm
theorem srtP_ris (l : List (Int × Int)) : RisP (srtP l) := (srtP_foldl l [] List.Pairwise.nil).1
theorem srtP_perm (l : List (Int × Int)) : (srtP l).Perm l := by have := (srtP_foldl l [] List.Pairwise.nil).2; rwa [List.nil_append] at this
theorem srtP_len (l : List (Int × Int)) : (srtP l).length = l.length := (srtP_perm l).length_eq
theorem srtP_snoc (l : List (Int × Int)) (x : Int × Int) : srtP (l ++ [x]) = insP x (srtP l) := by unfold srtP; rw [List.foldl_append]; rfl
/-- what rises is told by what is in it -/
theorem ris_one : ∀ {p q : List (Int × Int)}, RisP p → RisP q → p.Perm q → p = q := by
  intro p
  induction p with
  | nil => intro q _ _ h; exact (List.nil_perm.1 h).symm ▸ rfl
  | cons x p ih =>
    intro q hp hq h
    cases q with
    | nil => exact absurd h.symm (by intro h; have := h.length_eq; simp at this)
    | cons y q =>
      obtain ⟨p1, p2⟩ := List.pairwise_cons.1 hp
      obtain ⟨q1, q2⟩ := List.pairwise_cons.1 hq
      have hxy : x = y := by
        have m1 : x ∈ y :: q := h.mem_iff.1 (List.mem_cons_self ..)
        have m2 : y ∈ x :: p := h.mem_iff.2 (List.mem_cons_self ..)
        rcases List.mem_cons.1 m1 with e | m1
        · exact e
        · rcases List.mem_cons.1 m2 with e | m2
          · exact e.symm
          · have a1 := q1 x m1
            have a2 := p1 y m2
            rw [leP_iff] at a1 a2
            exact Prod.ext (by omega) (by omega)
      subst hxy
      rw [ih p2 q2 (List.Perm.cons_inv h)]
theorem srtP_of {p l : List (Int × Int)} (hr : RisP p) (hp : p.Perm l) : p = srtP l := ris_one hr (srtP_ris l) (hp.trans (srtP_perm l).symm)

/-! ### blocks -/
/-- a block from f on, that ends at e now and has c times; and those behind it -/
def bgo (gap f e c : Int) : List (Int × Int) → List (Int × Int)
  | [] => [(e - f, c)]
  | w :: ws => if gap < w.1 - e then (e - f, c) :: bgo gap w.1 (w.1 + w.2) 1 ws else bgo gap f (max e (w.1 + w.2)) (c + 1) ws
def blks (gap : Int) : List (Int × Int) → List (Int × Int)
  | [] => []
  | w :: ws => bgo gap w.1 (w.1 + w.2) 1 ws
/-- the first block is no less than what it is now -/
theorem bgo_first (gap f e c : Int) (ws : List (Int × Int)) : ∃ b ∈ bgo gap f e c ws, e - f ≤ b.1 ∧ c ≤ b.2 := by
  induction ws generalizing e c with
  | nil => exact ⟨_, List.mem_singleton.2 rfl, Int.le_refl _, Int.le_refl _⟩
  | cons w ws ih =>
    rw [bgo]
    split
    · exact ⟨_, List.mem_cons_self .., Int.le_refl _, Int.le_refl _⟩
    · obtain ⟨b, hb, h1, h2⟩ := ih (max e (w.1 + w.2)) (c + 1)
      exact ⟨b, hb, by omega, by omega⟩
/-- each block of the one is no greater than one of the other -/
def Dom (A B : List (Int × Int)) : Prop := ∀ b ∈ A, ∃ b' ∈ B, b.1 ≤ b'.1 ∧ b.2 ≤ b'.2
theorem Dom.refl (A : List (Int × Int)) : Dom A A := fun b hb => ⟨b, hb, Int.le_refl _, Int.le_refl _⟩
theorem Dom.trans {A B C : List (Int × Int)} (h1 : Dom A B) (h2 : Dom B C) : Dom A C := fun b hb => by
  obtain ⟨b1, m1, l1, l2⟩ := h1 b hb
  obtain ⟨b2, m2, l3, l4⟩ := h2 b1 m1
  exact ⟨b2, m2, Int.le_trans l1 l3, Int.le_trans l2 l4⟩
theorem Dom.cons {A B : List (Int × Int)} (x : Int × Int) (h : Dom A B) : Dom (x :: A) (x :: B) := fun b hb => by
  rcases List.mem_cons.1 hb with rfl | hb
  · exact ⟨b, List.mem_cons_self .., Int.le_refl _, Int.le_refl _⟩
  · obtain ⟨b1, m1, l1, l2⟩ := h b hb
    exact ⟨b1, List.mem_cons_of_mem _ m1, l1, l2⟩
theorem Dom.right {A B : List (Int × Int)} (x : Int × Int) (h : Dom A B) : Dom A (x :: B) := fun b hb => by
  obtain ⟨b1, m1, l1, l2⟩ := h b hb
  exact ⟨b1, List.mem_cons_of_mem _ m1, l1, l2⟩
/-- a greater state has greater blocks -/
theorem bgo_dom (gap : Int) : ∀ (ws : List (Int × Int)) (f e c f' e' c' : Int), f' ≤ f → e ≤ e' → c ≤ c' → 1 ≤ c' → RisP ws → (∀ w ∈ ws, f ≤ w.1) → Dom (bgo gap f e c ws) (bgo gap f' e' c' ws) := by
  intro ws
  induction ws with
  | nil =>
    intro f e c f' e' c' h1 h2 h3 _ _ _ b hb
    rw [bgo] at hb
    rw [List.mem_singleton.1 hb]
    exact ⟨_, List.mem_singleton.2 rfl, by show e - f ≤ e' - f'; omega, h3⟩
  | cons w ws ih =>
    intro f e c f' e' c' h1 h2 h3 h4 hr hw
    obtain ⟨r1, r2⟩ := List.pairwise_cons.1 hr
    have hf := hw w (List.mem_cons_self ..)
    have hws : ∀ z ∈ ws, w.1 ≤ z.1 := fun z hz => by have := r1 z hz; rw [leP_iff] at this; omega
    rw [bgo, bgo]
    by_cases g1 : gap < w.1 - e
    · rw [if_pos g1]
      by_cases g2 : gap < w.1 - e'
      · rw [if_pos g2]
        intro b hb
        rcases List.mem_cons.1 hb with rfl | hb
        · exact ⟨_, List.mem_cons_self .., by show e - f ≤ e' - f'; omega, h3⟩
        · exact ⟨b, List.mem_cons_of_mem _ hb, Int.le_refl _, Int.le_refl _⟩
      · rw [if_neg g2]
        intro b hb
        rcases List.mem_cons.1 hb with rfl | hb
        · obtain ⟨b', m, l1, l2⟩ := bgo_first gap f' (max e' (w.1 + w.2)) (c' + 1) ws
          exact ⟨b', m, by show e - f ≤ b'.1; omega, by show c ≤ b'.2; omega⟩
        · exact ih w.1 (w.1 + w.2) 1 f' (max e' (w.1 + w.2)) (c' + 1) (by omega) (by omega) (by omega) (by omega) r2 hws b hb
    · rw [if_neg g1, if_neg (show ¬ gap < w.1 - e' by omega)]
      exact ih f (max e (w.1 + w.2)) (c + 1) f' (max e' (w.1 + w.2)) (c' + 1) h1 (by omega) (by omega) (by omega) r2 (fun z hz => by have := hws z hz; omega)
/-- one more time, greater blocks -/
theorem bgo_ins (gap : Int) (x : Int × Int) : ∀ (ws : List (Int × Int)) (f e c : Int), f ≤ x.1 → 1 ≤ c → RisP ws → (∀ w ∈ ws, f ≤ w.1) → Dom (bgo gap f e c ws) (bgo gap f e c (insP x ws)) := by
  intro ws
  induction ws with
  | nil =>
    intro f e c hx hc _ _ b hb
    rw [bgo] at hb
    rw [List.mem_singleton.1 hb, insP, bgo]
    split
    · exact ⟨_, List.mem_cons_self .., Int.le_refl _, Int.le_refl _⟩
    · rw [bgo]
      exact ⟨_, List.mem_singleton.2 rfl, by show e - f ≤ max e (x.1 + x.2) - f; omega, by show c ≤ c + 1; omega⟩
  | cons w ws ih =>
    intro f e c hx hc hr hw
    obtain ⟨r1, r2⟩ := List.pairwise_cons.1 hr
    have hf := hw w (List.mem_cons_self ..)
    have hws : ∀ z ∈ ws, w.1 ≤ z.1 := fun z hz => by have := r1 z hz; rw [leP_iff] at this; omega
    rw [insP]
    by_cases hl : leP w x = true
    · rw [if_pos hl]
      rw [leP_iff] at hl
      rw [bgo, bgo]
      by_cases g1 : gap < w.1 - e
      · rw [if_pos g1, if_pos g1]
        exact Dom.cons _ (ih w.1 (w.1 + w.2) 1 (by omega) (by omega) r2 hws)
      · rw [if_neg g1, if_neg g1]
        exact ih f (max e (w.1 + w.2)) (c + 1) hx (by omega) r2 (fun z hz => by have := hws z hz; omega)
    · rw [if_neg hl]
      have hl2 : leP w x = false := by simpa using hl
      rw [leP_no] at hl2
      rw [show bgo gap f e c (x :: w :: ws) = if gap < x.1 - e then (e - f, c) :: bgo gap x.1 (x.1 + x.2) 1 (w :: ws) else bgo gap f (max e (x.1 + x.2)) (c + 1) (w :: ws) from rfl]
      by_cases g1 : gap < x.1 - e
      · rw [if_pos g1, bgo, if_pos (show gap < w.1 - e by omega)]
        refine Dom.cons _ ?_
        rw [bgo]
        by_cases g2 : gap < w.1 - (x.1 + x.2)
        · rw [if_pos g2]
          exact Dom.right _ (Dom.refl _)
        · rw [if_neg g2]
          exact bgo_dom gap ws w.1 (w.1 + w.2) 1 x.1 (max (x.1 + x.2) (w.1 + w.2)) (1 + 1) (by omega) (by omega) (by omega) (by omega) r2 hws
      · rw [if_neg g1]
        exact bgo_dom gap (w :: ws) f e c f (max e (x.1 + x.2)) (c + 1) (by omega) (by omega) (by omega) (by omega) hr hw
theorem blks_ins (gap : Int) (x : Int × Int) {ws : List (Int × Int)} (hr : RisP ws) : Dom (blks gap ws) (blks gap (insP x ws)) := by
  cases ws with
  | nil => intro b hb; cases hb
  | cons w ws =>
    obtain ⟨r1, r2⟩ := List.pairwise_cons.1 hr
    have hws : ∀ z ∈ ws, w.1 ≤ z.1 := fun z hz => by have := r1 z hz; rw [leP_iff] at this; omega
    rw [insP]
    by_cases hl : leP w x = true
    · rw [if_pos hl]
      rw [leP_iff] at hl
      exact bgo_ins gap x ws w.1 (w.1 + w.2) 1 (by omega) (by omega) r2 hws
    · rw [if_neg hl]
      have hl2 : leP w x = false := by simpa using hl
      rw [leP_no] at hl2
      show Dom (bgo gap w.1 (w.1 + w.2) 1 ws) (bgo gap x.1 (x.1 + x.2) 1 (w :: ws))
      rw [show bgo gap x.1 (x.1 + x.2) 1 (w :: ws) = if gap < w.1 - (x.1 + x.2) then (x.1 + x.2 - x.1, 1) :: bgo gap w.1 (w.1 + w.2) 1 ws else bgo gap x.1 (max (x.1 + x.2) (w.1 + w.2)) (1 + 1) ws from rfl]
      split
      · exact Dom.right _ (Dom.refl _)
      · exact bgo_dom gap ws w.1 (w.1 + w.2) 1 x.1 (max (x.1 + x.2) (w.1 + w.2)) (1 + 1) (by omega) (by omega) (by omega) (by omega) r2 hws
theorem blks_more (gap : Int) (p q : List (Int × Int)) : Dom (blks gap (srtP p)) (blks gap (srtP (p ++ q))) := by
  have key : ∀ (q acc : List (Int × Int)), RisP acc → Dom (blks gap acc) (blks gap (q.foldl (fun acc x => insP x acc) acc)) := by
    intro q
    induction q with
    | nil => intro acc _; exact Dom.refl _
    | cons x q ih => intro acc h; exact (blks_ins gap x h).trans (ih (insP x acc) (insP_ris h))
  have := key q (srtP p) (srtP_ris p)
  unfold srtP at this ⊢
  rw [List.foldl_append]
  exact this
/-! ### how many, how long -/
def sm (f : Int × Int → Int) : List (Int × Int) → Int
  | [] => 0
  | b :: l => f b + sm f l
theorem bgo_count (gap f e c : Int) (ws : List (Int × Int)) : sm (·.2) (bgo gap f e c ws) = c + ws.length := by
  induction ws generalizing f e c with
  | nil => rw [bgo]; show c + 0 = c + ((0 : Nat) : Int); omega
  | cons w ws ih =>
    rw [bgo, List.length_cons]
    split
    · show c + sm _ (bgo gap w.1 (w.1 + w.2) 1 ws) = _
      rw [ih]; omega
    · rw [ih]; omega
theorem blks_count (gap : Int) (ws : List (Int × Int)) : sm (·.2) (blks gap ws) = ws.length := by
  cases ws with
  | nil => rfl
  | cons w ws =>
    show sm _ (bgo gap w.1 (w.1 + w.2) 1 ws) = _
    rw [bgo_count, List.length_cons]; omega
theorem bgo_len (gap f e c : Int) (ws : List (Int × Int)) : 1 ≤ (bgo gap f e c ws).length ∧ (bgo gap f e c ws).length ≤ ws.length + 1 := by
  induction ws generalizing f e c with
  | nil => exact ⟨Nat.le_refl _, Nat.le_refl _⟩
  | cons w ws ih =>
    rw [bgo, List.length_cons]
    split
    · have := ih w.1 (w.1 + w.2) 1
      rw [List.length_cons]; omega
    · have := ih f (max e (w.1 + w.2)) (c + 1)
      omega
theorem blks_len (gap : Int) (ws : List (Int × Int)) : (blks gap ws).length ≤ ws.length := by
  cases ws with
  | nil => exact Nat.le_refl _
  | cons w ws => exact (bgo_len gap w.1 (w.1 + w.2) 1 ws).2
/-- with longer breaks there are no more blocks -/
theorem bgo_gap {g1 g2 : Int} (hg : g1 ≤ g2) : ∀ (ws : List (Int × Int)) (f e c f' e' c' : Int), e ≤ e' → (bgo g2 f' e' c' ws).length ≤ (bgo g1 f e c ws).length := by
  intro ws
  induction ws with
  | nil => intro f e c f' e' c' _; exact Nat.le_refl _
  | cons w ws ih =>
    intro f e c f' e' c' he
    rw [bgo, bgo]
    by_cases h2 : g2 < w.1 - e'
    · rw [if_pos h2, if_pos (show g1 < w.1 - e by omega), List.length_cons, List.length_cons]
      exact Nat.succ_le_succ (ih _ _ _ _ _ _ (Int.le_refl _))
    · rw [if_neg h2]
      split
      · rw [List.length_cons]
        exact Nat.le_succ_of_le (ih _ _ _ _ _ _ (by omega))
      · exact ih _ _ _ _ _ _ (by omega)
theorem blks_gap {g1 g2 : Int} (hg : g1 ≤ g2) (ws : List (Int × Int)) : (blks g2 ws).length ≤ (blks g1 ws).length := by
  cases ws with
  | nil => exact Nat.le_refl _
  | cons w ws => exact bgo_gap hg ws _ _ _ _ _ _ (Int.le_refl _)
/-- with the longest breaks there is one -/
theorem bgo_wide {gap : Int} : ∀ (ws : List (Int × Int)) (f e c : Int), 0 ≤ e → (∀ w ∈ ws, w.1 ≤ gap ∧ 0 ≤ w.2 ∧ 0 ≤ w.1) → (bgo gap f e c ws).length = 1 := by
  intro ws
  induction ws with
  | nil => intro f e c _ _; rfl
  | cons w ws ih =>
    intro f e c he hw
    have h1 := hw w (List.mem_cons_self ..)
    rw [bgo, if_neg (by omega)]
    exact ih f (max e (w.1 + w.2)) (c + 1) (by omega) (fun z hz => hw z (List.mem_cons_of_mem _ hz))
theorem blks_wide {gap : Int} {ws : List (Int × Int)} (hw : ∀ w ∈ ws, w.1 ≤ gap ∧ 0 ≤ w.2 ∧ 0 ≤ w.1) : (blks gap ws).length = min ws.length 1 := by
  cases ws with
  | nil => rfl
  | cons w ws =>
    have h1 := hw w (List.mem_cons_self ..)
    show (bgo gap w.1 (w.1 + w.2) 1 ws).length = _
    rw [bgo_wide ws _ _ _ (by omega) (fun z hz => hw z (List.mem_cons_of_mem _ hz)), List.length_cons]
    omega
/-- the blocks are as long as what they cover -/
def covP (ws : List (Int × Int)) (s : Nat) : Bool := ws.any fun w => decide (w.1 ≤ (s : Int) ∧ (s : Int) < w.1 + w.2)
theorem cnt_or_le (q r : Nat → Bool) (n : Nat) : cnt (fun s => q s || r s) n ≤ cnt q n + cnt r n := by
  rw [cnt_or]
  have : cnt (fun s => r s && !(q s)) n ≤ cnt r n := cnt_mono (fun s _ h => by rw [Bool.and_eq_true] at h; exact h.1)
  omega
theorem bgo_long (gap : Int) (n : Nat) : ∀ (ws : List (Int × Int)) (f e c : Int), 0 ≤ f → f ≤ e → RisP ws → (∀ w ∈ ws, f ≤ w.1 ∧ 0 ≤ w.2) →
    ((cnt (fun s => decide (f ≤ (s : Int) ∧ (s : Int) < e) || covP ws s) n : Nat) : Int) ≤ sm (·.1) (bgo gap f e c ws) := by
  intro ws
  induction ws with
  | nil =>
    intro f e c h0 h1 _ _
    rw [bgo]
    have e1 := cnt_span f e n h0
    rw [cnt_congr (q := fun s => decide (f ≤ (s : Int) ∧ (s : Int) < e)) (fun s _ => by show (_ || false) = _; rw [Bool.or_false]), e1]
    show _ ≤ e - f + 0
    omega
  | cons w ws ih =>
    intro f e c h0 h1 hr hw
    obtain ⟨r1, r2⟩ := List.pairwise_cons.1 hr
    have hf := hw w (List.mem_cons_self ..)
    have hws : ∀ z ∈ ws, w.1 ≤ z.1 ∧ 0 ≤ z.2 := fun z hz => by have := r1 z hz; rw [leP_iff] at this; exact ⟨by omega, (hw z (List.mem_cons_of_mem _ hz)).2⟩
    have hcov : ∀ s, covP (w :: ws) s = (decide (w.1 ≤ (s : Int) ∧ (s : Int) < w.1 + w.2) || covP ws s) := fun s => rfl
    rw [bgo]
    split
    · have i1 := ih w.1 (w.1 + w.2) 1 (by omega) (by omega) r2 hws
      have e1 := cnt_span f e n h0
      have e2 := cnt_or_le (fun s => decide (f ≤ (s : Int) ∧ (s : Int) < e)) (fun s => decide (w.1 ≤ (s : Int) ∧ (s : Int) < w.1 + w.2) || covP ws s) n
      rw [cnt_congr (q := fun s => decide (f ≤ (s : Int) ∧ (s : Int) < e) || (decide (w.1 ≤ (s : Int) ∧ (s : Int) < w.1 + w.2) || covP ws s)) (fun s _ => by rw [hcov])]
      show _ ≤ e - f + sm _ (bgo gap w.1 (w.1 + w.2) 1 ws)
      omega
    · have i1 := ih f (max e (w.1 + w.2)) (c + 1) h0 (by omega) r2 (fun z hz => ⟨by have := hws z hz; omega, (hws z hz).2⟩)
      have e2 : cnt (fun s => decide (f ≤ (s : Int) ∧ (s : Int) < e) || covP (w :: ws) s) n ≤ cnt (fun s => decide (f ≤ (s : Int) ∧ (s : Int) < max e (w.1 + w.2)) || covP ws s) n := cnt_mono (fun s _ h => by
        rw [hcov] at h
        simp only [Bool.or_eq_true, decide_eq_true_iff] at h ⊢
        rcases h with h | h | h
        · exact .inl (by omega)
        · exact .inl (by omega)
        · exact .inr h)
      omega
theorem blks_long (gap : Int) (n : Nat) {ws : List (Int × Int)} (hr : RisP ws) (hw : ∀ w ∈ ws, 0 ≤ w.1 ∧ 0 ≤ w.2) : ((cnt (covP ws) n : Nat) : Int) ≤ sm (·.1) (blks gap ws) := by
  cases ws with
  | nil =>
    have : cnt (covP []) n = 0 := by
      induction n with
      | zero => rfl
      | succ n ih => rw [cnt, ih]; rfl
    rw [this]
    exact Int.le_refl _
  | cons w ws =>
    obtain ⟨r1, r2⟩ := List.pairwise_cons.1 hr
    have h0 := hw w (List.mem_cons_self ..)
    exact bgo_long gap n ws w.1 (w.1 + w.2) 1 h0.1 (by omega) r2 (fun z hz => by have := r1 z hz; rw [leP_iff] at this; exact ⟨by omega, (hw z (List.mem_cons_of_mem _ hz)).2⟩)
end Go.Proofs.Ytjjmajhldpoobaa.Whn
