/- Mathematics of layer 16 (many): by how much a rule is passed, and what follows. Nothing of a program is spoken of here. -/
import Derived.Test.YtjjmajhldpoobaaMnyM
namespace Go.Proofs.Ytjjmajhldpoobaa.Whn

def dayW (g : Gr) (l : List Wh) (D : Nat) : List Wh := l.filter fun x => right g x && dayOn g x D
def dayP (g : Gr) (l : List Wh) (D : Nat) : List (Int × Int) := (dayW g l D).map prOf
def blkN (gap : Int) (g : Gr) (l : List Wh) (D : Nat) : List (Int × Int) := blks (max gap 0) (srtP (dayP g l D))
/-- the blocks of any day -/
def blkV (g : Gr) (l : List Wh) (day gap : Int) : List (Int × Int) := if 0 ≤ day ∧ day < daysN g then blkN gap g l day.toNat else []
/-- on how many days of the week -/
def dayC (g : Gr) (l : List Wh) : Int := ((cnt (fun d => l.any fun x => right g x && x.d.testBit d) 7 : Nat) : Int)
def busyN (g : Gr) (l : List Wh) (D : Nat) : Int := ((cnt (inD g l D) g.s.toNat : Nat) : Int)
def sumN (f : Nat → Int) : Nat → Int
  | 0 => 0
  | n + 1 => sumN f n + f n
def cntB (a : Int) : List (Int × Int) → Int
  | [] => 0
  | b :: l => (if 1 < b.2 ∧ a < b.1 then 1 else 0) + cntB a l
/-- what one day adds -/
def ovrD (g : Gr) (k a b : Int) (l : List Wh) (D : Nat) : Int :=
  if k = 22 then max (busyN g l D - a) 0 else if k = 23 then max (((blkN b g l D).length : Int) - 1 - a) 0 else if k = 24 then cntB a (blkN b g l D) else 0
def ovr (g : Gr) (k a b : Int) (l : List Wh) : Int := if k = 21 then max (dayC g l - max a 0) 0 else sumN (ovrD g k (max a 0) b l) (daysN g)
def brkV (g : Gr) (k a b : Int) (l : List Wh) (whole : Bool) : Bool := (whole || !decide (k = 23)) && decide (0 < ovr g k a b l)
def leastV (g : Gr) (k a b : Int) (l : List Wh) (whole : Bool) : Int := if !whole && (decide (k = 23) || decide (k = 24)) then 0 else ovr g k a b l

/-! ### sums -/
theorem sumN_mono {f h : Nat → Int} {n : Nat} (H : ∀ D, D < n → f D ≤ h D) : sumN f n ≤ sumN h n := by
  induction n with
  | zero => exact Int.le_refl _
  | succ n ih =>
    have := ih (fun D hD => H D (by omega))
    have := H n (by omega)
    rw [sumN, sumN]; omega
theorem sumN_congr {f h : Nat → Int} {n : Nat} (H : ∀ D, D < n → f D = h D) : sumN f n = sumN h n := by
  induction n with
  | zero => rfl
  | succ n ih => rw [sumN, sumN, ih (fun D hD => H D (by omega)), H n (by omega)]
theorem sumN_ge {f : Nat → Int} {n : Nat} (H : ∀ D, D < n → 0 ≤ f D) : 0 ≤ sumN f n := by
  induction n with
  | zero => exact Int.le_refl _
  | succ n ih =>
    have := ih (fun D hD => H D (by omega))
    have := H n (by omega)
    rw [sumN]; omega
theorem sumN_le {f : Nat → Int} {n : Nat} {M : Int} (H : ∀ D, D < n → f D ≤ M) : sumN f n ≤ (n : Int) * M := by
  induction n with
  | zero => rw [sumN]; omega
  | succ n ih =>
    have := ih (fun D hD => H D (by omega))
    have := H n (by omega)
    rw [sumN, show ((n + 1 : Nat) : Int) * M = (n : Int) * M + M by push_cast; rw [Int.add_mul, Int.one_mul]]
    omega
theorem sumN_pos {f : Nat → Int} {n : Nat} (H : ∀ D, D < n → 0 ≤ f D) : 0 < sumN f n ↔ ∃ D, D < n ∧ 0 < f D := by
  induction n with
  | zero => exact ⟨fun h => absurd h (Int.lt_irrefl 0), fun ⟨D, h, _⟩ => absurd h (Nat.not_lt_zero D)⟩
  | succ n ih =>
    have i1 := ih (fun D hD => H D (by omega))
    have h1 := sumN_ge (f := f) (n := n) (fun D hD => H D (by omega))
    have h2 := H n (by omega)
    rw [sumN]
    constructor
    · intro h
      by_cases hn : 0 < f n
      · exact ⟨n, by omega, hn⟩
      · obtain ⟨D, a, b⟩ := i1.1 (by omega)
        exact ⟨D, by omega, b⟩
    · rintro ⟨D, a, b⟩
      rcases Nat.lt_or_ge D n with h | h
      · have := i1.2 ⟨D, h, b⟩; omega
      · obtain rfl : D = n := by omega
        omega
theorem cntB_bnd (a : Int) (l : List (Int × Int)) : 0 ≤ cntB a l ∧ cntB a l ≤ l.length := by
  induction l with
  | nil => exact ⟨Int.le_refl _, Int.le_refl _⟩
  | cons b l ih => rw [cntB, List.length_cons]; split <;> omega
theorem cntB_pos (a : Int) (l : List (Int × Int)) : 0 < cntB a l ↔ ∃ b ∈ l, 1 < b.2 ∧ a < b.1 := by
  induction l with
  | nil => exact ⟨fun h => absurd h (Int.lt_irrefl 0), fun ⟨b, h, _⟩ => by cases h⟩
  | cons x l ih =>
    have := cntB_bnd a l
    rw [cntB]
    by_cases hx : 1 < x.2 ∧ a < x.1
    · rw [if_pos hx]
      exact ⟨fun _ => ⟨x, List.mem_cons_self .., hx⟩, fun _ => by omega⟩
    · rw [if_neg hx, Int.zero_add, ih]
      constructor
      · rintro ⟨b, hb, h⟩; exact ⟨b, List.mem_cons_of_mem _ hb, h⟩
      · rintro ⟨b, hb, h⟩
        rcases List.mem_cons.1 hb with rfl | hb
        · exact absurd h hx
        · exact ⟨b, hb, h⟩
theorem cntB_less {a c : Int} (h : a ≤ c) (l : List (Int × Int)) : cntB c l ≤ cntB a l := by
  induction l with
  | nil => exact Int.le_refl _
  | cons x l ih =>
    rw [cntB, cntB]
    by_cases hx : 1 < x.2 ∧ c < x.1
    · rw [if_pos hx, if_pos ⟨hx.1, by omega⟩]; omega
    · rw [if_neg hx]; split <;> omega
theorem dayW_len (g : Gr) (l : List Wh) (D : Nat) : (dayW g l D).length ≤ l.length := List.length_filter_le _ _
theorem dayP_len (g : Gr) (l : List Wh) (D : Nat) : (dayP g l D).length = (dayW g l D).length := List.length_map ..
theorem blkN_len (gap : Int) (g : Gr) (l : List Wh) (D : Nat) : (blkN gap g l D).length ≤ l.length := by
  have h1 := blks_len (max gap 0) (srtP (dayP g l D))
  rw [srtP_len, dayP_len] at h1
  exact Nat.le_trans h1 (dayW_len g l D)
theorem daysN_slots {g : Gr} {D : Nat} (hD : D < daysN g) : rgrid g = true ∧ 1 ≤ g.s ∧ g.s ≤ 96 := by
  unfold daysN at hD
  split at hD
  · rename_i hg
    obtain ⟨g1, g2, g3, g4, g5, g6⟩ := (rgrid_iff g).1 hg
    exact ⟨hg, g5, g6⟩
  · omega
theorem busyN_bnd (g : Gr) (l : List Wh) {D : Nat} (hD : D < daysN g) : 0 ≤ busyN g l D ∧ busyN g l D ≤ 96 := by
  have := cnt_le (inD g l D) g.s.toNat
  have := (daysN_slots hD).2
  unfold busyN
  omega
theorem ovrD_bnd (g : Gr) (k a b : Int) (l : List Wh) (ha : 0 ≤ a) {D : Nat} (hD : D < daysN g) : 0 ≤ ovrD g k a b l D ∧ ovrD g k a b l D ≤ 96 + l.length := by
  have h1 := busyN_bnd g l hD
  have h2 := blkN_len b g l D
  have h3 := cntB_bnd a (blkN b g l D)
  unfold ovrD
  split
  · omega
  · split
    · omega
    · split <;> omega
theorem dayC_bnd (g : Gr) (l : List Wh) : 0 ≤ dayC g l ∧ dayC g l ≤ 7 := by
  have := cnt_le (fun d => l.any fun x => right g x && x.d.testBit d) 7
  unfold dayC
  omega
theorem ovr_bnd (g : Gr) (k a b : Int) (l : List Wh) (hl : l.length ≤ 10000) : 0 ≤ ovr g k a b l ∧ ovr g k a b l ≤ 2000000 := by
  unfold ovr
  split
  · have := dayC_bnd g l; omega
  · have h1 := sumN_ge (f := ovrD g k (max a 0) b l) (n := daysN g) (fun D hD => (ovrD_bnd g k (max a 0) b l (by omega) hD).1)
    have h2 := sumN_le (f := ovrD g k (max a 0) b l) (n := daysN g) (M := 96 + l.length) (fun D hD => (ovrD_bnd g k (max a 0) b l (by omega) hD).2)
    have h3 := daysN_le g
    have h4 : (daysN g : Int) * (96 + (l.length : Int)) ≤ 140 * 10096 := Int.mul_le_mul (by omega) (by omega) (by omega) (by omega)
    omega

/-! ### more times -/
theorem dayW_append (g : Gr) (l m : List Wh) (D : Nat) : dayW g (l ++ m) D = dayW g l D ++ dayW g m D := List.filter_append ..
theorem blkN_more (gap : Int) (g : Gr) (l m : List Wh) (D : Nat) : Dom (blkN gap g l D) (blkN gap g (l ++ m) D) := by
  unfold blkN dayP
  rw [dayW_append, List.map_append]
  exact blks_more _ _ _
theorem dayC_more (g : Gr) (l m : List Wh) : dayC g l ≤ dayC g (l ++ m) := by
  unfold dayC
  have := cnt_mono (p := fun d => l.any fun x => right g x && x.d.testBit d) (q := fun d => (l ++ m).any fun x => right g x && x.d.testBit d) (n := 7) (fun s _ h => by
    show ((l ++ m).any _) = true
    rw [List.any_append, Bool.or_eq_true]; exact .inl h)
  omega
theorem busyN_more (g : Gr) (l m : List Wh) (D : Nat) : busyN g l D ≤ busyN g (l ++ m) D := by
  unfold busyN
  have := cnt_mono (p := inD g l D) (q := inD g (l ++ m) D) (n := g.s.toNat) (fun s _ h => by
    unfold inD at h ⊢
    rw [List.any_append, Bool.or_eq_true]; exact .inl h)
  omega
theorem brk_grows {g : Gr} {k a b : Int} {l : List Wh} (m : List Wh) (h : brkV g k a b l false = true) : brkV g k a b (l ++ m) false = true := by
  unfold brkV at h ⊢
  rw [Bool.and_eq_true, decide_eq_true_iff] at h ⊢
  refine ⟨h.1, ?_⟩
  have h0 := h.2
  unfold ovr at h0 ⊢
  by_cases h21 : k = 21
  · rw [if_pos h21] at h0 ⊢
    have := dayC_more g l m
    omega
  · rw [if_neg h21] at h0 ⊢
    have nn : ∀ l' D, D < daysN g → 0 ≤ ovrD g k (max a 0) b l' D := fun l' D hD => (ovrD_bnd g k (max a 0) b l' (by omega) hD).1
    rw [sumN_pos (nn _)] at h0 ⊢
    obtain ⟨D, hD, hp⟩ := h0
    refine ⟨D, hD, ?_⟩
    unfold ovrD at hp ⊢
    by_cases h22 : k = 22
    · rw [if_pos h22] at hp ⊢
      have := busyN_more g l m D
      omega
    · rw [if_neg h22] at hp ⊢
      have h23 : k ≠ 23 := by
        have := h.1
        simpa using this
      rw [if_neg h23] at hp ⊢
      by_cases h24 : k = 24
      · rw [if_pos h24] at hp ⊢
        rw [cntB_pos] at hp ⊢
        obtain ⟨x, hx, q1, q2⟩ := hp
        obtain ⟨y, hy, q3, q4⟩ := blkN_more b g l m D x hx
        exact ⟨y, hy, by omega, by omega⟩
      · rw [if_neg h24] at hp
        exact absurd hp (Int.lt_irrefl 0)
theorem least_grows (g : Gr) (k a b : Int) (l m : List Wh) : leastV g k a b l false ≤ leastV g k a b (l ++ m) false := by
  unfold leastV
  by_cases h : k = 23 ∨ k = 24
  · have e : (!false && (decide (k = 23) || decide (k = 24))) = true := by rcases h with h | h <;> simp [h]
    rw [e, if_pos rfl, if_pos rfl]
    exact Int.le_refl _
  · have e : (!false && (decide (k = 23) || decide (k = 24))) = false := by
      have h1 : k ≠ 23 := fun e => h (.inl e)
      have h2 : k ≠ 24 := fun e => h (.inr e)
      simp [h1, h2]
    rw [e, if_neg (by decide), if_neg (by decide)]
    unfold ovr
    split
    · have := dayC_more g l m; omega
    · refine sumN_mono fun D hD => ?_
      unfold ovrD
      split
      · have := busyN_more g l m D; omega
      · rw [if_neg (fun e => h (.inl e)), if_neg (fun e => h (.inr e)), if_neg (fun e => h (.inl e)), if_neg (fun e => h (.inr e))]
        exact Int.le_refl _
/-- of more that may be no more is passed -/
theorem ovr_less (g : Gr) (k b : Int) (l : List Wh) {a c : Int} (h : a ≤ c) : ovr g k c b l ≤ ovr g k a b l := by
  unfold ovr
  split
  · omega
  · refine sumN_mono fun D hD => ?_
    unfold ovrD
    split
    · omega
    · split
      · omega
      · split
        · exact cntB_less (by omega) _
        · exact Int.le_refl _
theorem ovr_load (g : Gr) (a b : Int) (l : List Wh) (ha : 0 ≤ a) : ovr g 22 a b l = sumN (fun D => max (busyN g l D - a) 0) (daysN g) := by
  unfold ovr
  rw [if_neg (by decide)]
  refine sumN_congr fun D _ => ?_
  unfold ovrD
  rw [if_pos rfl, show max a 0 = a by omega]
theorem ovr_days (g : Gr) (a b : Int) (l : List Wh) (ha : 0 ≤ a) : ovr g 21 a b l = max (dayC g l - a) 0 := by
  unfold ovr
  rw [if_pos rfl, show max a 0 = a by omega]

/-! ### what stands in the blocks -/
/-- the whole of a day -/
def whole (g : Gr) (D : Nat) : Wh := ⟨2 ^ (D / g.d.toNat), 2 ^ (D % g.d.toNat), 0, 96⟩
theorem and_pow (n i : Nat) : (n &&& 2 ^ i ≠ 0) ↔ n.testBit i = true := by
  constructor
  · intro h
    cases hb : n.testBit i with
    | true => rfl
    | false =>
      refine absurd (Nat.eq_of_testBit_eq fun j => ?_) h
      rw [Nat.testBit_and, Nat.testBit_two_pow, Nat.zero_testBit]
      by_cases e : i = j
      · subst e; rw [hb]; rfl
      · rw [decide_eq_false e, Bool.and_false]
  · intro h e
    have h2 := congrArg (fun z => z.testBit i) e
    simp only [Nat.testBit_and, Nat.testBit_two_pow, h, Nat.zero_testBit, decide_true, Bool.and_self] at h2
    cases h2
theorem meet_whole {g : Gr} {x : Wh} (h : right g x = true) (D : Nat) : meet x (whole g D) = dayOn g x D := by
  obtain ⟨hg, _, _, h3, h4, h5, _⟩ := (right_iff g x).1 h
  obtain ⟨g1, g2, g3, g4, g5, g6⟩ := (rgrid_iff g).1 hg
  have ht := right_tame h
  have ht2 : tame (whole g D) = true := by rw [tame_iff]; show 0 ≤ (0 : Int) ∧ (0 : Int) ≤ 96 ∧ 1 ≤ (96 : Int) ∧ (96 : Int) ≤ 96; omega
  have hs : slots x (whole g D) = true := by
    unfold slots
    rw [decide_eq_true_iff]
    show max x.s 0 < min (x.s + x.l) (0 + 96)
    omega
  unfold meet sameDay dayOn
  rw [ht, ht2, hs, Bool.true_and, Bool.true_and, Bool.and_true, Bool.eq_iff_iff, decide_eq_true_iff, Bool.and_eq_true]
  show (x.w &&& 2 ^ (D / g.d.toNat) ≠ 0 ∧ x.d &&& 2 ^ (D % g.d.toNat) ≠ 0) ↔ _
  rw [and_pow, and_pow]
theorem blkN_count (gap : Int) (g : Gr) (l : List Wh) (D : Nat) : sm (·.2) (blkN gap g l D) = ((dayW g l D).length : Int) := by
  unfold blkN
  rw [blks_count, srtP_len, dayP_len]
theorem dayP_bnd {g : Gr} {l : List Wh} {D : Nat} {p : Int × Int} (h : p ∈ srtP (dayP g l D)) : 0 ≤ p.1 ∧ p.1 ≤ 95 ∧ 1 ≤ p.2 ∧ p.1 + p.2 ≤ 96 := by
  have hm := (srtP_perm _).mem_iff.1 h
  unfold dayP dayW at hm
  obtain ⟨x, hx, rfl⟩ := List.mem_map.1 hm
  rw [List.mem_filter, Bool.and_eq_true] at hx
  obtain ⟨hg, _, _, h3, h4, h5, _⟩ := (right_iff g x).1 hx.2.1
  obtain ⟨g1, g2, g3, g4, g5, g6⟩ := (rgrid_iff g).1 hg
  show 0 ≤ x.s ∧ x.s ≤ 95 ∧ 1 ≤ x.l ∧ x.s + x.l ≤ 96
  omega
theorem blkN_long (gap : Int) (g : Gr) (l : List Wh) {D : Nat} (hD : D < daysN g) : busyN g l D ≤ sm (·.1) (blkN gap g l D) := by
  have h1 := blks_long (max gap 0) g.s.toNat (srtP_ris (dayP g l D)) (fun w hw => by have := dayP_bnd hw; omega)
  have h2 : cnt (inD g l D) g.s.toNat = cnt (covP (srtP (dayP g l D))) g.s.toNat := cnt_congr fun s _ => by
    unfold inD covP
    rw [Bool.eq_iff_iff, List.any_eq_true, List.any_eq_true]
    constructor
    · rintro ⟨x, hx, h⟩
      rw [Bool.and_eq_true] at h
      have hon := h.2
      rw [on_day h.1 hD, Bool.and_eq_true] at hon
      refine ⟨prOf x, (srtP_perm _).mem_iff.2 (List.mem_map.2 ⟨x, ?_, rfl⟩), hon.2⟩
      unfold dayW
      rw [List.mem_filter, Bool.and_eq_true]
      exact ⟨hx, h.1, hon.1⟩
    · rintro ⟨p, hp, h⟩
      obtain ⟨x, hx, rfl⟩ := List.mem_map.1 ((srtP_perm _).mem_iff.1 hp)
      unfold dayW at hx
      rw [List.mem_filter, Bool.and_eq_true] at hx
      refine ⟨x, hx.1, ?_⟩
      rw [Bool.and_eq_true]
      refine ⟨hx.2.1, ?_⟩
      rw [on_day hx.2.1 hD, Bool.and_eq_true]
      exact ⟨hx.2.2, h⟩
  unfold busyN blkN
  rw [h2]
  exact h1
theorem blkN_gap {g1 g2 : Int} (h : g1 ≤ g2) (g : Gr) (l : List Wh) (D : Nat) : (blkN g2 g l D).length ≤ (blkN g1 g l D).length := blks_gap (by omega) _
theorem blkN_wide (g : Gr) (l : List Wh) (D : Nat) : (blkN 96 g l D).length = min (dayW g l D).length 1 := by
  unfold blkN
  rw [blks_wide (fun w hw => by have := dayP_bnd hw; omega), srtP_len, dayP_len]
end Go.Proofs.Ytjjmajhldpoobaa.Whn
