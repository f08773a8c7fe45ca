/- Mathematics of layer 12 (person): how many slots of a day are in some times, and from the first to the last. Nothing of a program is spoken of here. -/
import Derived.Test.YtjjmajhldpoobaaWh1
namespace Go.Proofs.Ytjjmajhldpoobaa.Whn

/-- how many of the first n numbers -/
def cnt (q : Nat → Bool) : Nat → Nat
  | 0 => 0
  | n + 1 => cnt q n + (if q n then 1 else 0)
/-- the first and the last one -/
def ft (q : Nat → Bool) : Nat → Int × Int
  | 0 => (-1, -2)
  | n + 1 => if q n then ((if (ft q n).1 < 0 then (n : Int) else (ft q n).1), (n : Int)) else ft q n
def spr (q : Nat → Bool) (n : Nat) : Int := max ((ft q n).2 - (ft q n).1 + 1) 0
theorem cnt_le (q : Nat → Bool) (n : Nat) : cnt q n ≤ n := by
  induction n with
  | zero => exact Nat.le_refl _
  | succ n ih => rw [cnt]; split <;> omega
theorem cnt_congr {p q : Nat → Bool} {n : Nat} (h : ∀ s, s < n → p s = q s) : cnt p n = cnt q n := by
  induction n with
  | zero => rfl
  | succ n ih => rw [cnt, cnt, h n (by omega), ih (fun s hs => h s (by omega))]
theorem ft_congr {p q : Nat → Bool} {n : Nat} (h : ∀ s, s < n → p s = q s) : ft p n = ft q n := by
  induction n with
  | zero => rfl
  | succ n ih => rw [ft, ft, h n (by omega), ih (fun s hs => h s (by omega))]
theorem spr_congr {p q : Nat → Bool} {n : Nat} (h : ∀ s, s < n → p s = q s) : spr p n = spr q n := by unfold spr; rw [ft_congr h]
theorem cnt_mono {p q : Nat → Bool} {n : Nat} (h : ∀ s, s < n → p s = true → q s = true) : cnt p n ≤ cnt q n := by
  induction n with
  | zero => exact Nat.le_refl _
  | succ n ih =>
    have i1 := ih (fun s hs => h s (by omega))
    rw [cnt, cnt]
    by_cases hp : p n = true
    · rw [if_pos hp, if_pos (h n (by omega) hp)]; omega
    · rw [if_neg hp]; omega
theorem cnt_or (q r : Nat → Bool) (n : Nat) : cnt (fun s => q s || r s) n = cnt q n + cnt (fun s => r s && !(q s)) n := by
  induction n with
  | zero => rfl
  | succ n ih =>
    rw [cnt, cnt, cnt, ih]
    cases q n <;> cases r n <;> simp <;> omega
theorem cnt_span (lo hi : Int) (n : Nat) (h0 : 0 ≤ lo) : ((cnt (fun s => decide (lo ≤ (s : Int) ∧ (s : Int) < hi)) n : Nat) : Int) = max 0 (min hi n - lo) := by
  induction n with
  | zero => rw [cnt]; omega
  | succ n ih =>
    rw [cnt]
    by_cases h : lo ≤ (n : Int) ∧ (n : Int) < hi
    · rw [if_pos (by rw [decide_eq_true_iff]; exact h)]; omega
    · rw [if_neg (by rw [decide_eq_true_iff]; exact h)]; omega
theorem ft_is (q : Nat → Bool) (n : Nat) : ((∀ s, s < n → q s = false) ∧ ft q n = (-1, -2)) ∨ ∃ A B : Nat, ft q n = ((A : Int), (B : Int)) ∧ A < n ∧ B < n ∧ q A = true ∧ q B = true ∧ ∀ s, s < n → q s = true → A ≤ s ∧ s ≤ B := by
  induction n with
  | zero => exact .inl ⟨fun s hs => absurd hs (Nat.not_lt_zero s), rfl⟩
  | succ n ih =>
    rw [ft]
    cases hq : q n with
    | false =>
      rw [if_neg (by decide)]
      rcases ih with ⟨h1, h2⟩ | ⟨A, B, h1, h2, h3, h4, h5, h6⟩
      · refine .inl ⟨fun s hs => ?_, h2⟩
        rcases Nat.lt_or_ge s n with h | h
        · exact h1 s h
        · obtain rfl : s = n := by omega
          exact hq
      · refine .inr ⟨A, B, h1, by omega, by omega, h4, h5, fun s hs hqs => ?_⟩
        rcases Nat.lt_or_ge s n with h | h
        · exact h6 s h hqs
        · obtain rfl : s = n := by omega
          rw [hq] at hqs; cases hqs
    | true =>
      rw [if_pos rfl]
      rcases ih with ⟨h1, h2⟩ | ⟨A, B, h1, h2, h3, h4, h5, h6⟩
      · rw [h2]
        refine .inr ⟨n, n, by rw [if_pos (by decide)], by omega, by omega, hq, hq, fun s hs hqs => ?_⟩
        rcases Nat.lt_or_ge s n with h | h
        · rw [h1 s h] at hqs; cases hqs
        · omega
      · rw [h1]
        refine .inr ⟨A, n, by rw [if_neg (by omega)], by omega, by omega, h4, hq, fun s hs hqs => ?_⟩
        rcases Nat.lt_or_ge s n with h | h
        · have := h6 s h hqs; omega
        · obtain rfl : s = n := by omega
          omega
theorem spr_none {q : Nat → Bool} {n : Nat} (h : ∀ s, s < n → q s = false) : spr q n = 0 := by
  unfold spr
  rcases ft_is q n with ⟨_, h2⟩ | ⟨A, B, _, h2, _, h4, _⟩
  · rw [h2]; rfl
  · rw [h A h2] at h4; cases h4
theorem spr_some {q : Nat → Bool} {n A B : Nat} (hA : A < n) (hB : B < n) (qA : q A = true) (qB : q B = true) (h : ∀ s, s < n → q s = true → A ≤ s ∧ s ≤ B) : spr q n = (B : Int) - A + 1 := by
  unfold spr
  rcases ft_is q n with ⟨h1, _⟩ | ⟨C, D, h1, h2, h3, h4, h5, h6⟩
  · rw [h1 A hA] at qA; cases qA
  · have a1 := h C h2 h4
    have a2 := h D h3 h5
    have a3 := h6 A hA qA
    have a4 := h6 B hB qB
    rw [h1]
    show max ((D : Int) - C + 1) 0 = _
    omega
theorem spr_ge (q : Nat → Bool) (n : Nat) : 0 ≤ spr q n ∧ spr q n ≤ n := by
  rcases ft_is q n with ⟨h1, _⟩ | ⟨C, D, h1, h2, h3, h4, h5, h6⟩
  · rw [spr_none h1]; omega
  · have := h6 C h2 h4
    have := h6 D h3 h5
    rw [spr_some h2 h3 h4 h5 h6]; omega
theorem cnt_spr (q : Nat → Bool) (n : Nat) : ((cnt q n : Nat) : Int) ≤ spr q n := by
  rcases ft_is q n with ⟨h1, _⟩ | ⟨C, D, h1, h2, h3, h4, h5, h6⟩
  · rw [spr_none h1, cnt_congr (q := fun s => decide ((0 : Int) ≤ (s : Int) ∧ (s : Int) < 0)) (fun s hs => by rw [h1 s hs, decide_eq_false (by omega)]), cnt_span 0 0 n (by omega)]
    omega
  · rw [spr_some h2 h3 h4 h5 h6]
    have := h6 C h2 h4
    have e : cnt q n ≤ cnt (fun s => decide ((C : Int) ≤ (s : Int) ∧ (s : Int) < (D : Int) + 1)) n := cnt_mono (fun s hs hq => by
      have := h6 s hs hq
      rw [decide_eq_true_iff]; omega)
    have e2 := cnt_span (C : Int) ((D : Int) + 1) n (by omega)
    omega
theorem cnt_pos {q : Nat → Bool} {n s : Nat} (hs : s < n) (hq : q s = true) : 0 < cnt q n := by
  induction n with
  | zero => omega
  | succ n ih =>
    rw [cnt]
    rcases Nat.lt_or_ge s n with h | h
    · have := ih h; omega
    · obtain rfl : s = n := by omega
      rw [if_pos hq]; omega
theorem spr_mono {p q : Nat → Bool} {n : Nat} (h : ∀ s, s < n → p s = true → q s = true) : spr p n ≤ spr q n := by
  rcases ft_is p n with ⟨h1, _⟩ | ⟨C, D, h1, h2, h3, h4, h5, h6⟩
  · rw [spr_none h1]; exact (spr_ge q n).1
  · rw [spr_some h2 h3 h4 h5 h6]
    rcases ft_is q n with ⟨k1, _⟩ | ⟨C', D', k1, k2, k3, k4, k5, k6⟩
    · have := h C h2 h4
      rw [k1 C h2] at this; cases this
    · rw [spr_some k2 k3 k4 k5 k6]
      have := k6 C h2 (h C h2 h4)
      have := k6 D h3 (h D h3 h5)
      omega
theorem zero_both (q : Nat → Bool) (n : Nat) : cnt q n = 0 ↔ spr q n = 0 := by
  rcases ft_is q n with ⟨h1, _⟩ | ⟨C, D, h1, h2, h3, h4, h5, h6⟩
  · have e := spr_none h1
    have := cnt_spr q n
    exact ⟨fun _ => e, fun _ => by omega⟩
  · have := cnt_pos h2 h4
    have := spr_some h2 h3 h4 h5 h6
    have := h6 C h2 h4
    have := h6 D h3 h5
    exact ⟨fun h => by omega, fun h => by omega⟩

/-! ### days -/
/-- is a time on the day of this number? -/
def dayOn (g : Gr) (x : Wh) (D : Nat) : Bool := x.w.testBit (D / g.d.toNat) && x.d.testBit (D % g.d.toNat)
/-- does a day have a slot that is in one of some times, that may be? -/
def inD (g : Gr) (l : List Wh) (D s : Nat) : Bool := l.any fun x => right g x && on x ((D : Int) / g.d) ((D : Int) % g.d) (s : Int)
/-- is it in one of some times on that day? -/
def cov (g : Gr) (l : List Wh) (D s : Nat) : Bool := l.any fun x => dayOn g x D && decide (x.s ≤ (s : Int) ∧ (s : Int) < x.s + x.l)
def daysN (g : Gr) : Nat := if rgrid g then (g.w * g.d).toNat else 0
def busy (g : Gr) (l : List Wh) : List Int := (List.range (daysN g)).map fun D => ((cnt (inD g l D) g.s.toNat : Nat) : Int)
def spread (g : Gr) (l : List Wh) : List Int := (List.range (daysN g)).map fun D => spr (inD g l D) g.s.toNat
theorem on_day {g : Gr} {x : Wh} (h : right g x = true) {D : Nat} (hD : D < daysN g) (s : Int) : on x ((D : Int) / g.d) ((D : Int) % g.d) s = (dayOn g x D && decide (x.s ≤ s ∧ s < x.s + x.l)) := by
  obtain ⟨hg, _⟩ := (right_iff g x).1 h
  obtain ⟨g1, g2, g3, g4, g5, g6⟩ := (rgrid_iff g).1 hg
  unfold daysN at hD
  rw [if_pos hg] at hD
  obtain ⟨d, hd⟩ := Int.eq_ofNat_of_zero_le (show 0 ≤ g.d by omega)
  have e1 : (D : Int) / g.d = ((D / d : Nat) : Int) := by rw [hd]; rfl
  have e2 : (D : Int) % g.d = ((D % d : Nat) : Int) := by rw [hd]; rfl
  have m1 : D % d < d := Nat.mod_lt _ (by omega)
  have m2 : D / d < 20 := by
    refine Nat.div_lt_of_lt_mul ?_
    have : g.w * g.d ≤ 20 * g.d := Int.mul_le_mul_of_nonneg_right g2 (by omega)
    have : d * 20 = 20 * d := Nat.mul_comm _ _
    omega
  have hdn : g.d.toNat = d := by omega
  unfold on dayOn
  rw [e1, e2, hdn]
  generalize D / d = q at *
  generalize D % d = r at *
  rw [right_tame h, Bool.true_and, decide_eq_true (by omega), Bool.true_and, Int.toNat_natCast, Int.toNat_natCast, Bool.and_assoc]
theorem inD_eq (g : Gr) (l : List Wh) {D : Nat} (hD : D < daysN g) (s : Nat) : inD g l D s = cov g (l.filter (right g)) D s := by
  unfold inD cov
  rw [List.any_filter]
  rw [Bool.eq_iff_iff, List.any_eq_true, List.any_eq_true]
  constructor
  · rintro ⟨x, hx, h⟩
    rw [Bool.and_eq_true] at h
    refine ⟨x, hx, ?_⟩
    rw [h.1, Bool.true_and, ← on_day h.1 hD]
    exact h.2
  · rintro ⟨x, hx, h⟩
    rw [Bool.and_eq_true] at h
    refine ⟨x, hx, ?_⟩
    rw [h.1, Bool.true_and, on_day h.1 hD]
    exact h.2
theorem busy_len (g : Gr) (l : List Wh) : (busy g l).length = daysN g := by unfold busy; rw [List.length_map, List.length_range]
theorem spread_len (g : Gr) (l : List Wh) : (spread g l).length = daysN g := by unfold spread; rw [List.length_map, List.length_range]
theorem daysN_le (g : Gr) : daysN g ≤ 140 := by
  unfold daysN
  split
  · rename_i h
    obtain ⟨g1, g2, g3, g4, g5, g6⟩ := (rgrid_iff g).1 h
    have : g.w * g.d ≤ 20 * 7 := Int.mul_le_mul g2 g4 (by omega) (by omega)
    omega
  · omega

/-! ### the program's way: times by their first slots -/
def stB (g : Gr) (D : Nat) (z : Int × Int) (x : Wh) : Int × Int := if dayOn g x D then (z.1 + (max z.2 (x.s + x.l) - max z.2 x.s), max z.2 (x.s + x.l)) else z
def stS (g : Gr) (D : Nat) (z : Int × Int) (x : Wh) : Int × Int := if dayOn g x D then (max z.1 (x.s + x.l - (if z.1 = 0 then x.s else z.2)), if z.1 = 0 then x.s else z.2) else z
def atB (g : Gr) (p : List Wh) (D : Nat) : Int × Int := p.foldl (stB g D) (0, 0)
def atS (g : Gr) (p : List Wh) (D : Nat) : Int × Int := p.foldl (stS g D) (0, 0)
theorem atB_snoc (g : Gr) (p : List Wh) (x : Wh) (D : Nat) : atB g (p ++ [x]) D = stB g D (atB g p D) x := by unfold atB; rw [List.foldl_append]; rfl
theorem atS_snoc (g : Gr) (p : List Wh) (x : Wh) (D : Nat) : atS g (p ++ [x]) D = stS g D (atS g p D) x := by unfold atS; rw [List.foldl_append]; rfl
theorem cov_snoc (g : Gr) (p : List Wh) (x : Wh) (D s : Nat) : cov g (p ++ [x]) D s = (cov g p D s || (dayOn g x D && decide (x.s ≤ (s : Int) ∧ (s : Int) < x.s + x.l))) := by
  unfold cov
  rw [List.any_append, List.any_cons, List.any_nil, Bool.or_false]
theorem cov_no {g : Gr} {p : List Wh} {x : Wh} {D : Nat} (h : dayOn g x D = false) : cov g (p ++ [x]) D = cov g p D := funext fun s => by rw [cov_snoc, h, Bool.false_and, Bool.or_false]
theorem cov_yes {g : Gr} {p : List Wh} {x : Wh} {D : Nat} (h : dayOn g x D = true) (s : Nat) : cov g (p ++ [x]) D s = true ↔ cov g p D s = true ∨ (x.s ≤ (s : Int) ∧ (s : Int) < x.s + x.l) := by
  rw [cov_snoc, h, Bool.true_and, Bool.or_eq_true, decide_eq_true_iff]
/-- what stands behind some times that rise -/
def InvB (g : Gr) (p : List Wh) (D : Nat) (z : Int × Int) : Prop :=
  z.1 = ((cnt (cov g p D) g.s.toNat : Nat) : Int) ∧ 0 ≤ z.2 ∧ z.2 ≤ g.s ∧ (∀ s, cov g p D s = true → (s : Int) < z.2) ∧ ∀ s : Nat, (∀ x ∈ p, x.s ≤ (s : Int)) → (s : Int) < z.2 → cov g p D s = true
theorem invB_step {g : Gr} {p : List Wh} {D : Nat} {z : Int × Int} (h : InvB g p D z) {x : Wh} (hr : right g x = true) (hs : ∀ y ∈ p, y.s ≤ x.s) : InvB g (p ++ [x]) D (stB g D z x) := by
  obtain ⟨h1, h2, h3, h4, h5⟩ := h
  obtain ⟨_, _, _, r1, r2, r3, _⟩ := (right_iff g x).1 hr
  unfold stB
  cases hd : dayOn g x D with
  | false =>
    rw [if_neg (by decide)]
    unfold InvB
    rw [cov_no hd]
    exact ⟨h1, h2, h3, h4, fun s hx hz => h5 s (fun y hy => hx y (List.mem_append_left _ hy)) hz⟩
  | true =>
    rw [if_pos rfl]
    refine ⟨?_, ?_, ?_, ?_, ?_⟩
    · show z.1 + (max z.2 (x.s + x.l) - max z.2 x.s) = _
      have e1 : cnt (cov g (p ++ [x]) D) g.s.toNat = cnt (cov g p D) g.s.toNat + cnt (fun s => decide (max z.2 x.s ≤ (s : Int) ∧ (s : Int) < x.s + x.l)) g.s.toNat := by
        rw [cnt_congr (q := fun s => cov g p D s || decide (x.s ≤ (s : Int) ∧ (s : Int) < x.s + x.l)) (fun s _ => by rw [cov_snoc, hd, Bool.true_and]), cnt_or]
        congr 1
        refine cnt_congr fun s _ => ?_
        rw [Bool.eq_iff_iff, Bool.and_eq_true, decide_eq_true_iff, decide_eq_true_iff, Bool.not_eq_true']
        constructor
        · rintro ⟨⟨q1, q2⟩, q3⟩
          refine ⟨?_, q2⟩
          have : ¬ (s : Int) < z.2 := fun hlt => by
            have := h5 s (fun y hy => Int.le_trans (hs y hy) q1) hlt
            rw [this] at q3; cases q3
          omega
        · rintro ⟨q1, q2⟩
          refine ⟨⟨by omega, q2⟩, ?_⟩
          cases hc : cov g p D s with
          | false => rfl
          | true => have := h4 s hc; omega
      have e2 := cnt_span (max z.2 x.s) (x.s + x.l) g.s.toNat (by omega)
      rw [e1, h1]
      omega
    · show 0 ≤ max z.2 (x.s + x.l); omega
    · show max z.2 (x.s + x.l) ≤ g.s; omega
    · intro s hc
      show (s : Int) < max z.2 (x.s + x.l)
      rcases (cov_yes hd s).1 hc with h | h
      · have := h4 s h; omega
      · omega
    · intro s hx hz
      have hz' : (s : Int) < max z.2 (x.s + x.l) := hz
      rw [cov_yes hd]
      by_cases hlt : (s : Int) < z.2
      · exact .inl (h5 s (fun y hy => hx y (List.mem_append_left _ hy)) hlt)
      · exact .inr ⟨hx x (List.mem_append_right _ (List.mem_singleton.2 rfl)), by omega⟩
/-- rows that rise by their first slots -/
def RisS (l : List Wh) : Prop := l.Pairwise fun x y => x.s ≤ y.s
theorem invB_all {g : Gr} (hg : rgrid g = true) (D : Nat) (l : List Wh) (hr : ∀ x ∈ l, right g x = true) (hs : RisS l) : InvB g l D (atB g l D) := by
  have key : ∀ k, k ≤ l.length → InvB g (l.take k) D (atB g (l.take k) D) := by
    intro k
    induction k with
    | zero =>
      intro _
      have g1 := (rgrid_iff g).1 hg
      refine ⟨?_, Int.le_refl _, by show (0 : Int) ≤ g.s; omega, fun s hc => (by cases hc), fun s _ hz => ?_⟩
      · show (0 : Int) = _
        rw [List.take_zero, cnt_congr (q := fun s => decide ((0 : Int) ≤ (s : Int) ∧ (s : Int) < 0)) (fun s _ => by rw [decide_eq_false (by omega)]; rfl)]
        have := cnt_span 0 0 g.s.toNat (by omega)
        omega
      · have : (s : Int) < 0 := hz
        omega
    | succ k ih =>
      intro hk
      have hx : l[k]? = some l[k] := List.getElem?_eq_getElem hk
      rw [List.take_add_one, hx, Option.toList_some, atB_snoc]
      refine invB_step (ih (by omega)) (hr _ (List.getElem_mem hk)) fun y hy => ?_
      obtain ⟨i, hi, rfl⟩ := List.mem_iff_getElem.1 hy
      rw [List.length_take] at hi
      rw [List.getElem_take]
      exact List.pairwise_iff_getElem.1 hs i k (by omega) hk (by omega)
  have := key l.length (Nat.le_refl _)
  rwa [List.take_length] at this
def InvS (g : Gr) (p : List Wh) (D : Nat) (z : Int × Int) : Prop :=
  (z.1 = 0 ∧ ∀ s, cov g p D s = false) ∨ (0 < z.1 ∧ 0 ≤ z.2 ∧ z.2 + z.1 ≤ g.s ∧ (∃ y ∈ p, z.2 = y.s) ∧ cov g p D z.2.toNat = true ∧ cov g p D (z.2 + z.1 - 1).toNat = true ∧ ∀ s, cov g p D s = true → z.2 ≤ (s : Int) ∧ (s : Int) < z.2 + z.1)
theorem invS_step {g : Gr} {p : List Wh} {D : Nat} {z : Int × Int} (h : InvS g p D z) {x : Wh} (hr : right g x = true) (hs : ∀ y ∈ p, y.s ≤ x.s) : InvS g (p ++ [x]) D (stS g D z x) := by
  obtain ⟨_, _, _, r1, r2, r3, _⟩ := (right_iff g x).1 hr
  unfold stS
  cases hd : dayOn g x D with
  | false =>
    rw [if_neg (by decide)]
    unfold InvS
    rw [cov_no hd]
    rcases h with h | ⟨h1, h2, h3, ⟨y, hy, h4⟩, h5⟩
    · exact .inl h
    · exact .inr ⟨h1, h2, h3, ⟨y, List.mem_append_left _ hy, h4⟩, h5⟩
  | true =>
    rw [if_pos rfl]
    rcases h with ⟨h0, h1⟩ | ⟨h1, h2, h3, ⟨y, hy, h4⟩, h5, h6, h7⟩
    · rw [if_pos h0]
      refine .inr ⟨?_, ?_, ?_, ⟨x, List.mem_append_right _ (List.mem_singleton.2 rfl), rfl⟩, ?_, ?_, ?_⟩
      · show 0 < max z.1 (x.s + x.l - x.s); omega
      · show 0 ≤ x.s; exact r1
      · show x.s + max z.1 (x.s + x.l - x.s) ≤ g.s; omega
      · rw [cov_yes hd]; right; show x.s ≤ ((x.s.toNat : Nat) : Int) ∧ _; omega
      · rw [cov_yes hd]; right
        show x.s ≤ (((x.s + max z.1 (x.s + x.l - x.s) - 1).toNat : Nat) : Int) ∧ (((x.s + max z.1 (x.s + x.l - x.s) - 1).toNat : Nat) : Int) < x.s + x.l
        omega
      · intro s hc
        show x.s ≤ (s : Int) ∧ (s : Int) < x.s + max z.1 (x.s + x.l - x.s)
        rcases (cov_yes hd s).1 hc with h | h
        · rw [h1 s] at h; cases h
        · omega
    · rw [if_neg (by omega)]
      have hyx := hs y hy
      refine .inr ⟨?_, ?_, ?_, ⟨y, List.mem_append_left _ hy, h4⟩, ?_, ?_, ?_⟩
      · show 0 < max z.1 (x.s + x.l - z.2); omega
      · exact h2
      · show z.2 + max z.1 (x.s + x.l - z.2) ≤ g.s; omega
      · rw [cov_yes hd]; exact .inl h5
      · rw [cov_yes hd]
        show cov g p D (z.2 + max z.1 (x.s + x.l - z.2) - 1).toNat = true ∨ (x.s ≤ (((z.2 + max z.1 (x.s + x.l - z.2) - 1).toNat : Nat) : Int) ∧ (((z.2 + max z.1 (x.s + x.l - z.2) - 1).toNat : Nat) : Int) < x.s + x.l)
        by_cases hm : x.s + x.l - z.2 ≤ z.1
        · left
          rw [show max z.1 (x.s + x.l - z.2) = z.1 by omega]
          exact h6
        · right; omega
      · intro s hc
        show z.2 ≤ (s : Int) ∧ (s : Int) < z.2 + max z.1 (x.s + x.l - z.2)
        rcases (cov_yes hd s).1 hc with h | h
        · have := h7 s h; omega
        · omega
theorem invS_all {g : Gr} (D : Nat) (l : List Wh) (hr : ∀ x ∈ l, right g x = true) (hs : RisS l) : InvS g l D (atS g l D) := by
  have key : ∀ k, k ≤ l.length → InvS g (l.take k) D (atS g (l.take k) D) := by
    intro k
    induction k with
    | zero => exact fun _ => .inl ⟨rfl, fun s => rfl⟩
    | succ k ih =>
      intro hk
      have hx : l[k]? = some l[k] := List.getElem?_eq_getElem hk
      rw [List.take_add_one, hx, Option.toList_some, atS_snoc]
      refine invS_step (ih (by omega)) (hr _ (List.getElem_mem hk)) fun y hy => ?_
      obtain ⟨i, hi, rfl⟩ := List.mem_iff_getElem.1 hy
      rw [List.length_take] at hi
      rw [List.getElem_take]
      exact List.pairwise_iff_getElem.1 hs i k (by omega) hk (by omega)
  have := key l.length (Nat.le_refl _)
  rwa [List.take_length] at this
theorem cov_perm {g : Gr} {a b : List Wh} (h : a.Perm b) (D : Nat) : cov g a D = cov g b D := funext fun s => by
  unfold cov
  rw [Bool.eq_iff_iff, List.any_eq_true, List.any_eq_true]
  exact ⟨fun ⟨x, hx, hq⟩ => ⟨x, h.mem_iff.1 hx, hq⟩, fun ⟨x, hx, hq⟩ => ⟨x, h.mem_iff.2 hx, hq⟩⟩
/-- the program's numbers are the document's -/
theorem atB_busy {g : Gr} (hg : rgrid g = true) {l rs : List Wh} (hp : rs.Perm (l.filter (right g))) (hs : RisS rs) {D : Nat} (hD : D < daysN g) : (atB g rs D).1 = ((cnt (inD g l D) g.s.toNat : Nat) : Int) := by
  have h := invB_all hg D rs (fun x hx => (List.mem_filter.1 (hp.mem_iff.1 hx)).2) hs
  rw [h.1, cov_perm hp, cnt_congr (fun s _ => inD_eq g l hD s)]
theorem atS_spread {g : Gr} {l rs : List Wh} (hp : rs.Perm (l.filter (right g))) (hs : RisS rs) {D : Nat} (hD : D < daysN g) : (atS g rs D).1 = spr (inD g l D) g.s.toNat := by
  have h := invS_all D rs (fun x hx => (List.mem_filter.1 (hp.mem_iff.1 hx)).2) hs
  rw [spr_congr (q := cov g rs D) (fun s _ => by rw [inD_eq g l hD s, cov_perm hp])]
  rcases h with ⟨h0, h1⟩ | ⟨h1, h2, h3, ⟨y, hy, h4⟩, h5, h6, h7⟩
  · rw [h0, spr_none (fun s _ => h1 s)]
  · have h8 := h7 _ h6
    rw [spr_some (A := (atS g rs D).2.toNat) (B := ((atS g rs D).2 + (atS g rs D).1 - 1).toNat) (by omega) (by omega) h5 h6 (fun s _ hc => by have := h7 s hc; omega)]
    omega
end Go.Proofs.Ytjjmajhldpoobaa.Whn
