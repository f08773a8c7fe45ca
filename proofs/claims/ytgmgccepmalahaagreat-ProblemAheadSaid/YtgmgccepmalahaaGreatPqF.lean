/- Mathematics of layer 12 (person): how many slots of a day are in some times, and from the first to the last. Nothing of a program is spoken of here. Mathematics of layer 16 (many): the blocks of a day, by how much a rule is passed. Nothing of a program is spoken of here. Mathematics of layer 16 (many): by how much a rule is passed, and what follows. Nothing of a program is spoken of here. The document's own answers for layer 12 (person): days, in. The document's own answers for layer 16 (many): Known, from, Right, all; few. -/
import Derived.Test.YtgmgccepmalahaaGreatWh1
import Derived.Test.YtgmgccepmalahaaGreatPqA
namespace Go.Proofs.YtgmgccepmalahaaGreat.Whn

/-- how many of the first n numbers -/
def cnt (q : Nat → Bool) : Nat → Nat
  | 0 => 0
  | n + 1 => cnt q n + (if q n then 1 else 0)
/-- the first and the last one -/
def ft (q : Nat → Bool) : Nat → Int × Int
  | 0 => (-1, -2)
  | n + 1 => if q n then ((if (ft q n).1 < 0 then (n : Int) else (ft q n).1), (n : Int)) else ft q n
def spr (q : Nat → Bool) (n : Nat) : Int := max ((ft q n).2 - (ft q n).1 + 1) 0
theorem cnt_le (q : Nat → Bool) (n : Nat) : cnt q n ≤ n := by
  induction n with
  | zero => exact Nat.le_refl _
  | succ n ih => rw [cnt]; split <;> omega
theorem cnt_congr {p q : Nat → Bool} {n : Nat} (h : ∀ s, s < n → p s = q s) : cnt p n = cnt q n := by
  induction n with
  | zero => rfl
  | succ n ih => rw [cnt, cnt, h n (by omega), ih (fun s hs => h s (by omega))]
theorem ft_congr {p q : Nat → Bool} {n : Nat} (h : ∀ s, s < n → p s = q s) : ft p n = ft q n := by
  induction n with
  | zero => rfl
  | succ n ih => rw [ft, ft, h n (by omega), ih (fun s hs => h s (by omega))]
theorem spr_congr {p q : Nat → Bool} {n : Nat} (h : ∀ s, s < n → p s = q s) : spr p n = spr q n := by unfold spr; rw [ft_congr h]
theorem cnt_mono {p q : Nat → Bool} {n : Nat} (h : ∀ s, s < n → p s = true → q s = true) : cnt p n ≤ cnt q n := by
  induction n with
  | zero => exact Nat.le_refl _
  | succ n ih =>
    have i1 := ih (fun s hs => h s (by omega))
    rw [cnt, cnt]
    by_cases hp : p n = true
    · rw [if_pos hp, if_pos (h n (by omega) hp)]; omega
    · rw [if_neg hp]; omega
theorem cnt_or (q r : Nat → Bool) (n : Nat) : cnt (fun s => q s || r s) n = cnt q n + cnt (fun s => r s && !(q s)) n := by
  induction n with
  | zero => rfl
  | succ n ih =>
    rw [cnt, cnt, cnt, ih]
    cases q n <;> cases r n <;> simp <;> omega
theorem cnt_span (lo hi : Int) (n : Nat) (h0 : 0 ≤ lo) : ((cnt (fun s => decide (lo ≤ (s : Int) ∧ (s : Int) < hi)) n : Nat) : Int) = max 0 (min hi n - lo) := by
  induction n with
  | zero => rw [cnt]; omega
  | succ n ih =>
    rw [cnt]
    by_cases h : lo ≤ (n : Int) ∧ (n : Int) < hi
    · rw [if_pos (by rw [decide_eq_true_iff]; exact h)]; omega
    · rw [if_neg (by rw [decide_eq_true_iff]; exact h)]; omega
theorem ft_is (q : Nat → Bool) (n : Nat) : ((∀ s, s < n → q s = false) ∧ ft q n = (-1, -2)) ∨ ∃ A B : Nat, ft q n = ((A : Int), (B : Int)) ∧ A < n ∧ B < n ∧ q A = true ∧ q B = true ∧ ∀ s, s < n → q s = true → A ≤ s ∧ s ≤ B := by
  induction n with
  | zero => exact .inl ⟨fun s hs => absurd hs (Nat.not_lt_zero s), rfl⟩
  | succ n ih =>
    rw [ft]
    cases hq : q n with
    | false =>
      rw [if_neg (by decide)]
      rcases ih with ⟨h1, h2⟩ | ⟨A, B, h1, h2, h3, h4, h5, h6⟩
      · refine .inl ⟨fun s hs => ?_, h2⟩
        rcases Nat.lt_or_ge s n with h | h
        · exact h1 s h
        · obtain rfl : s = n := by omega
          exact hq
      · refine .inr ⟨A, B, h1, by omega, by omega, h4, h5, fun s hs hqs => ?_⟩
        rcases Nat.lt_or_ge s n with h | h
        · exact h6 s h hqs
        · obtain rfl : s = n := by omega
          rw [hq] at hqs; cases hqs
    | true =>
      rw [if_pos rfl]
      rcases ih with ⟨h1, h2⟩ | ⟨A, B, h1, h2, h3, h4, h5, h6⟩
      · rw [h2]
        refine .inr ⟨n, n, by rw [if_pos (by decide)], by omega, by omega, hq, hq, fun s hs hqs => ?_⟩
        rcases Nat.lt_or_ge s n with h | h
        · rw [h1 s h] at hqs; cases hqs
        · omega
      · rw [h1]
        refine .inr ⟨A, n, by rw [if_neg (by omega)], by omega, by omega, h4, hq, fun s hs hqs => ?_⟩
        rcases Nat.lt_or_ge s n with h | h
        · have := h6 s h hqs; omega
        · obtain rfl : s = n := by omega
          omega
theorem spr_none {q : Nat → Bool} {n : Nat} (h : ∀ s, s < n → q s = false) : spr q n = 0 := by
  unfold spr
  rcases ft_is q n with ⟨_, h2⟩ | ⟨A, B, _, h2, _, h4, _⟩
  · rw [h2]; rfl
  · rw [h A h2] at h4; cases h4
theorem spr_some {q : Nat → Bool} {n A B : Nat} (hA : A < n) (hB : B < n) (qA : q A = true) (qB : q B = true) (h : ∀ s, s < n → q s = true → A ≤ s ∧ s ≤ B) : spr q n = (B : Int) - A + 1 := by
  unfold spr
  rcases ft_is q n with ⟨h1, _⟩ | ⟨C, D, h1, h2, h3, h4, h5, h6⟩
  · rw [h1 A hA] at qA; cases qA
  · have a1 := h C h2 h4
    have a2 := h D h3 h5
    have a3 := h6 A hA qA
    have a4 := h6 B hB qB
    rw [h1]
    show max ((D : Int) - C + 1) 0 = _
    omega
theorem spr_ge (q : Nat → Bool) (n : Nat) : 0 ≤ spr q n ∧ spr q n ≤ n := by
  rcases ft_is q n with ⟨h1, _⟩ | ⟨C, D, h1, h2, h3, h4, h5, h6⟩
  · rw [spr_none h1]; omega
  · have := h6 C h2 h4
    have := h6 D h3 h5
    rw [spr_some h2 h3 h4 h5 h6]; omega
theorem cnt_spr (q : Nat → Bool) (n : Nat) : ((cnt q n : Nat) : Int) ≤ spr q n := by
  rcases ft_is q n with ⟨h1, _⟩ | ⟨C, D, h1, h2, h3, h4, h5, h6⟩
  · rw [spr_none h1, cnt_congr (q := fun s => decide ((0 : Int) ≤ (s : Int) ∧ (s : Int) < 0)) (fun s hs => by rw [h1 s hs, decide_eq_false (by omega)]), cnt_span 0 0 n (by omega)]
    omega
  · rw [spr_some h2 h3 h4 h5 h6]
    have := h6 C h2 h4
    have e : cnt q n ≤ cnt (fun s => decide ((C : Int) ≤ (s : Int) ∧ (s : Int) < (D : Int) + 1)) n := cnt_mono (fun s hs hq => by
      have := h6 s hs hq
      rw [decide_eq_true_iff]; omega)
    have e2 := cnt_span (C : Int) ((D : Int) + 1) n (by omega)
    omega
theorem cnt_pos {q : Nat → Bool} {n s : Nat} (hs : s < n) (hq : q s = true) : 0 < cnt q n := by
  induction n with
  | zero => omega
  | succ n ih =>
    rw [cnt]
    rcases Nat.lt_or_ge s n with h | h
    · have := ih h; omega
    · obtain rfl : s = n := by omega
      rw [if_pos hq]; omega
theorem spr_mono {p q : Nat → Bool} {n : Nat} (h : ∀ s, s < n → p s = true → q s = true) : spr p n ≤ spr q n := by
  rcases ft_is p n with ⟨h1, _⟩ | ⟨C, D, h1, h2, h3, h4, h5, h6⟩
  · rw [spr_none h1]; exact (spr_ge q n).1
  · rw [spr_some h2 h3 h4 h5 h6]
    rcases ft_is q n with ⟨k1, _⟩ | ⟨C', D', k1, k2, k3, k4, k5, k6⟩
    · have := h C h2 h4
      rw [k1 C h2] at this; cases this
    · rw [spr_some k2 k3 k4 k5 k6]
      have := k6 C h2 (h C h2 h4)
      have := k6 D h3 (h D h3 h5)
      omega
theorem zero_both (q : Nat → Bool) (n : Nat) : cnt q n = 0 ↔ spr q n = 0 := by
  rcases ft_is q n with ⟨h1, _⟩ | ⟨C, D, h1, h2, h3, h4, h5, h6⟩
  · have e := spr_none h1
    have := cnt_spr q n
    exact ⟨fun _ => e, fun _ => by omega⟩
  · have := cnt_pos h2 h4
    have := spr_some h2 h3 h4 h5 h6
    have := h6 C h2 h4
    have := h6 D h3 h5
    exact ⟨fun h => by omega, fun h => by omega⟩

/-! ### days -/
/-- is a time on the day of this number? -/
def dayOn (g : Gr) (x : Wh) (D : Nat) : Bool := x.w.testBit (D / g.d.toNat) && x.d.testBit (D % g.d.toNat)
/-- does a day have a slot that is in one of some times, that may be? -/
def inD (g : Gr) (l : List Wh) (D s : Nat) : Bool := l.any fun x => right g x && on x ((D : Int) / g.d) ((D : Int) % g.d) (s : Int)
/-- is it in one of some times on that day? -/
def cov (g : Gr) (l : List Wh) (D s : Nat) : Bool := l.any fun x => dayOn g x D && decide (x.s ≤ (s : Int) ∧ (s : Int) < x.s + x.l)
def daysN (g : Gr) : Nat := if rgrid g then (g.w * g.d).toNat else 0
def busy (g : Gr) (l : List Wh) : List Int := (List.range (daysN g)).map fun D => ((cnt (inD g l D) g.s.toNat : Nat) : Int)
def spread (g : Gr) (l : List Wh) : List Int := (List.range (daysN g)).map fun D => spr (inD g l D) g.s.toNat
theorem on_day {g : Gr} {x : Wh} (h : right g x = true) {D : Nat} (hD : D < daysN g) (s : Int) : on x ((D : Int) / g.d) ((D : Int) % g.d) s = (dayOn g x D && decide (x.s ≤ s ∧ s < x.s + x.l)) := by
  obtain ⟨hg, _⟩ := (right_iff g x).1 h
  obtain ⟨g1, g2, g3, g4, g5, g6⟩ := (rgrid_iff g).1 hg
  unfold daysN at hD
  rw [if_pos hg] at hD
  obtain ⟨d, hd⟩ := Int.eq_ofNat_of_zero_le (show 0 ≤ g.d by omega)
  have e1 : (D : Int) / g.d = ((D / d : Nat) : Int) := by rw [hd]; rfl
  have e2 : (D : Int) % g.d = ((D % d : Nat) : Int) := by rw [hd]; rfl
  have m1 : D % d < d := Nat.mod_lt _ (by omega)
  have m2 : D / d < 20 := by
    refine Nat.div_lt_of_lt_mul ?_
    have : g.w * g.d ≤ 20 * g.d := Int.mul_le_mul_of_nonneg_right g2 (by omega)
    have : d * 20 = 20 * d := Nat.mul_comm _ _
    omega
  have hdn : g.d.toNat = d := by omega
  unfold on dayOn
  rw [e1, e2, hdn]
  generalize D / d = q at *
  generalize D % d = r at *
  rw [right_tame h, Bool.true_and, decide_eq_true (by omega), Bool.true_and, Int.toNat_natCast, Int.toNat_natCast, Bool.and_assoc]
theorem inD_eq (g : Gr) (l : List Wh) {D : Nat} (hD : D < daysN g) (s : Nat) : inD g l D s = cov g (l.filter (right g)) D s := by
  unfold inD cov
  rw [List.any_filter]
  rw [Bool.eq_iff_iff, List.any_eq_true, List.any_eq_true]
  constructor
  · rintro ⟨x, hx, h⟩
    rw [Bool.and_eq_true] at h
    refine ⟨x, hx, ?_⟩
    rw [h.1, Bool.true_and, ← on_day h.1 hD]
    exact h.2
  · rintro ⟨x, hx, h⟩
    rw [Bool.and_eq_true] at h
    refine ⟨x, hx, ?_⟩
    rw [h.1, Bool.true_and, on_day h.1 hD]
    exact h.2
theorem busy_len (g : Gr) (l : List Wh) : (busy g l).length = daysN g := by unfold busy; rw [List.length_map, List.length_range]
theorem spread_len (g : Gr) (l : List Wh) : (spread g l).length = daysN g := by unfold spread; rw [List.length_map, List.length_range]
theorem daysN_le (g : Gr) : daysN g ≤ 140 := by
  unfold daysN
  split
  · rename_i h
    obtain ⟨g1, g2, g3, g4, g5, g6⟩ := (rgrid_iff g).1 h
    have : g.w * g.d ≤ 20 * 7 := Int.mul_le_mul g2 g4 (by omega) (by omega)
    omega
  · omega

/-! ### the program's way: times by their first slots -/
def stB (g : Gr) (D : Nat) (z : Int × Int) (x : Wh) : Int × Int := if dayOn g x D then (z.1 + (max z.2 (x.s + x.l) - max z.2 x.s), max z.2 (x.s + x.l)) else z
def stS (g : Gr) (D : Nat) (z : Int × Int) (x : Wh) : Int × Int := if dayOn g x D then (max z.1 (x.s + x.l - (if z.1 = 0 then x.s else z.2)), if z.1 = 0 then x.s else z.2) else z
def atB (g : Gr) (p : List Wh) (D : Nat) : Int × Int := p.foldl (stB g D) (0, 0)
def atS (g : Gr) (p : List Wh) (D : Nat) : Int × Int := p.foldl (stS g D) (0, 0)
theorem atB_snoc (g : Gr) (p : List Wh) (x : Wh) (D : Nat) : atB g (p ++ [x]) D = stB g D (atB g p D) x := by unfold atB; rw [List.foldl_append]; rfl
theorem atS_snoc (g : Gr) (p : List Wh) (x : Wh) (D : Nat) : atS g (p ++ [x]) D = stS g D (atS g p D) x := by unfold atS; rw [List.foldl_append]; rfl
theorem cov_snoc (g : Gr) (p : List Wh) (x : Wh) (D s : Nat) : cov g (p ++ [x]) D s = (cov g p D s || (dayOn g x D && decide (x.s ≤ (s : Int) ∧ (s : Int) < x.s + x.l))) := by
  unfold cov
  rw [List.any_append, List.any_cons, List.any_nil, Bool.or_false]
theorem cov_no {g : Gr} {p : List Wh} {x : Wh} {D : Nat} (h : dayOn g x D = false) : cov g (p ++ [x]) D = cov g p D := funext fun s => by rw [cov_snoc, h, Bool.false_and, Bool.or_false]
theorem cov_yes {g : Gr} {p : List Wh} {x : Wh} {D : Nat} (h : dayOn g x D = true) (s : Nat) : cov g (p ++ [x]) D s = true ↔ cov g p D s = true ∨ (x.s ≤ (s : Int) ∧ (s : Int) < x.s + x.l) := by
  rw [cov_snoc, h, Bool.true_and, Bool.or_eq_true, decide_eq_true_iff]
/-- what stands behind some times that rise -/
def InvB (g : Gr) (p : List Wh) (D : Nat) (z : Int × Int) : Prop :=
  z.1 = ((cnt (cov g p D) g.s.toNat : Nat) : Int) ∧ 0 ≤ z.2 ∧ z.2 ≤ g.s ∧ (∀ s, cov g p D s = true → (s : Int) < z.2) ∧ ∀ s : Nat, (∀ x ∈ p, x.s ≤ (s : Int)) → (s : Int) < z.2 → cov g p D s = true
theorem invB_step {g : Gr} {p : List Wh} {D : Nat} {z : Int × Int} (h : InvB g p D z) {x : Wh} (hr : right g x = true) (hs : ∀ y ∈ p, y.s ≤ x.s) : InvB g (p ++ [x]) D (stB g D z x) := by
  obtain ⟨h1, h2, h3, h4, h5⟩ := h
  obtain ⟨_, _, _, r1, r2, r3, _⟩ := (right_iff g x).1 hr
  unfold stB
  cases hd : dayOn g x D with
  | false =>
    rw [if_neg (by decide)]
    unfold InvB
    rw [cov_no hd]
    exact ⟨h1, h2, h3, h4, fun s hx hz => h5 s (fun y hy => hx y (List.mem_append_left _ hy)) hz⟩
  | true =>
    rw [if_pos rfl]
    refine ⟨?_, ?_, ?_, ?_, ?_⟩
    · show z.1 + (max z.2 (x.s + x.l) - max z.2 x.s) = _
      have e1 : cnt (cov g (p ++ [x]) D) g.s.toNat = cnt (cov g p D) g.s.toNat + cnt (fun s => decide (max z.2 x.s ≤ (s : Int) ∧ (s : Int) < x.s + x.l)) g.s.toNat := by
        rw [cnt_congr (q := fun s => cov g p D s || decide (x.s ≤ (s : Int) ∧ (s : Int) < x.s + x.l)) (fun s _ => by rw [cov_snoc, hd, Bool.true_and]), cnt_or]
        congr 1
        refine cnt_congr fun s _ => ?_
        rw [Bool.eq_iff_iff, Bool.and_eq_true, decide_eq_true_iff, decide_eq_true_iff, Bool.not_eq_true']
        constructor
        · rintro ⟨⟨q1, q2⟩, q3⟩
          refine ⟨?_, q2⟩
          have : ¬ (s : Int) < z.2 := fun hlt => by
            have := h5 s (fun y hy => Int.le_trans (hs y hy) q1) hlt
            rw [this] at q3; cases q3
          omega
        · rintro ⟨q1, q2⟩
          refine ⟨⟨by omega, q2⟩, ?_⟩
          cases hc : cov g p D s with
          | false => rfl
          | true => have := h4 s hc; omega
      have e2 := cnt_span (max z.2 x.s) (x.s + x.l) g.s.toNat (by omega)
      rw [e1, h1]
      omega
    · show 0 ≤ max z.2 (x.s + x.l); omega
    · show max z.2 (x.s + x.l) ≤ g.s; omega
    · intro s hc
      show (s : Int) < max z.2 (x.s + x.l)
      rcases (cov_yes hd s).1 hc with h | h
      · have := h4 s h; omega
      · omega
    · intro s hx hz
      have hz' : (s : Int) < max z.2 (x.s + x.l) := hz
      rw [cov_yes hd]
      by_cases hlt : (s : Int) < z.2
      · exact .inl (h5 s (fun y hy => hx y (List.mem_append_left _ hy)) hlt)
      · exact .inr ⟨hx x (List.mem_append_right _ (List.mem_singleton.2 rfl)), by omega⟩
/-- rows that rise by their first slots -/
def RisS (l : List Wh) : Prop := l.Pairwise fun x y => x.s ≤ y.s
theorem invB_all {g : Gr} (hg : rgrid g = true) (D : Nat) (l : List Wh) (hr : ∀ x ∈ l, right g x = true) (hs : RisS l) : InvB g l D (atB g l D) := by
  have key : ∀ k, k ≤ l.length → InvB g (l.take k) D (atB g (l.take k) D) := by
    intro k
    induction k with
    | zero =>
      intro _
      have g1 := (rgrid_iff g).1 hg
      refine ⟨?_, Int.le_refl _, by show (0 : Int) ≤ g.s; omega, fun s hc => (by cases hc), fun s _ hz => ?_⟩
      · show (0 : Int) = _
        rw [List.take_zero, cnt_congr (q := fun s => decide ((0 : Int) ≤ (s : Int) ∧ (s : Int) < 0)) (fun s _ => by rw [decide_eq_false (by omega)]; rfl)]
        have := cnt_span 0 0 g.s.toNat (by omega)
        omega
      · have : (s : Int) < 0 := hz
        omega
    | succ k ih =>
      intro hk
      have hx : l[k]? = some l[k] := List.getElem?_eq_getElem hk
      rw [List.take_add_one, hx, Option.toList_some, atB_snoc]
      refine invB_step (ih (by omega)) (hr _ (List.getElem_mem hk)) fun y hy => ?_
      obtain ⟨i, hi, rfl⟩ := List.mem_iff_getElem.1 hy
      rw [List.length_take] at hi
      rw [List.getElem_take]
      exact List.pairwise_iff_getElem.1 hs i k (by omega) hk (by omega)
  have := key l.length (Nat.le_refl _)
  rwa [List.take_length] at this
def InvS (g : Gr) (p : List Wh) (D : Nat) (z : Int × Int) : Prop :=
  (z.1 = 0 ∧ ∀ s, cov g p D s = false) ∨ (0 < z.1 ∧ 0 ≤ z.2 ∧ z.2 + z.1 ≤ g.s ∧ (∃ y ∈ p, z.2 = y.s) ∧ cov g p D z.2.toNat = true ∧ cov g p D (z.2 + z.1 - 1).toNat = true ∧ ∀ s, cov g p D s = true → z.2 ≤ (s : Int) ∧ (s : Int) < z.2 + z.1)
theorem invS_step {g : Gr} {p : List Wh} {D : Nat} {z : Int × Int} (h : InvS g p D z) {x : Wh} (hr : right g x = true) (hs : ∀ y ∈ p, y.s ≤ x.s) : InvS g (p ++ [x]) D (stS g D z x) := by
  obtain ⟨_, _, _, r1, r2, r3, _⟩ := (right_iff g x).1 hr
  unfold stS
  cases hd : dayOn g x D with
  | false =>
    rw [if_neg (by decide)]
    unfold InvS
    rw [cov_no hd]
    rcases h with h | ⟨h1, h2, h3, ⟨y, hy, h4⟩, h5⟩
    · exact .inl h
    · exact .inr ⟨h1, h2, h3, ⟨y, List.mem_append_left _ hy, h4⟩, h5⟩
  | true =>
    rw [if_pos rfl]
    rcases h with ⟨h0, h1⟩ | ⟨h1, h2, h3, ⟨y, hy, h4⟩, h5, h6, h7⟩
    · rw [if_pos h0]
      refine .inr ⟨?_, ?_, ?_, ⟨x, List.mem_append_right _ (List.mem_singleton.2 rfl), rfl⟩, ?_, ?_, ?_⟩
      · show 0 < max z.1 (x.s + x.l - x.s); omega
      · show 0 ≤ x.s; exact r1
      · show x.s + max z.1 (x.s + x.l - x.s) ≤ g.s; omega
      · rw [cov_yes hd]; right; show x.s ≤ ((x.s.toNat : Nat) : Int) ∧ _; omega
      · rw [cov_yes hd]; right
        show x.s ≤ (((x.s + max z.1 (x.s + x.l - x.s) - 1).toNat : Nat) : Int) ∧ (((x.s + max z.1 (x.s + x.l - x.s) - 1).toNat : Nat) : Int) < x.s + x.l
        omega
      · intro s hc
        show x.s ≤ (s : Int) ∧ (s : Int) < x.s + max z.1 (x.s + x.l - x.s)
        rcases (cov_yes hd s).1 hc with h | h
        · rw [h1 s] at h; cases h
        · omega
    · rw [if_neg (by omega)]
      have hyx := hs y hy
      refine .inr ⟨?_, ?_, ?_, ⟨y, List.mem_append_left _ hy, h4⟩, ?_, ?_, ?_⟩
      · show 0 < max z.1 (x.s + x.l - z.2); omega
      · exact h2
      · show z.2 + max z.1 (x.s + x.l - z.2) ≤ g.s; omega
      · rw [cov_yes hd]; exact .inl h5
      · rw [cov_yes hd]
        show cov g p D (z.2 + max z.1 (x.s + x.l - z.2) - 1).toNat = true ∨ (x.s ≤ (((z.2 + max z.1 (x.s + x.l - z.2) - 1).toNat : Nat) : Int) ∧ (((z.2 + max z.1 (x.s + x.l - z.2) - 1).toNat : Nat) : Int) < x.s + x.l)
        by_cases hm : x.s + x.l - z.2 ≤ z.1
        · left
          rw [show max z.1 (x.s + x.l - z.2) = z.1 by omega]
          exact h6
        · right; omega
      · intro s hc
        show z.2 ≤ (s : Int) ∧ (s : Int) < z.2 + max z.1 (x.s + x.l - z.2)
        rcases (cov_yes hd s).1 hc with h | h
        · have := h7 s h; omega
        · omega
theorem invS_all {g : Gr} (D : Nat) (l : List Wh) (hr : ∀ x ∈ l, right g x = true) (hs : RisS l) : InvS g l D (atS g l D) := by
  have key : ∀ k, k ≤ l.length → InvS g (l.take k) D (atS g (l.take k) D) := by
    intro k
    induction k with
    | zero => exact fun _ => .inl ⟨rfl, fun s => rfl⟩
    | succ k ih =>
      intro hk
      have hx : l[k]? = some l[k] := List.getElem?_eq_getElem hk
      rw [List.take_add_one, hx, Option.toList_some, atS_snoc]
      refine invS_step (ih (by omega)) (hr _ (List.getElem_mem hk)) fun y hy => ?_
      obtain ⟨i, hi, rfl⟩ := List.mem_iff_getElem.1 hy
      rw [List.length_take] at hi
      rw [List.getElem_take]
      exact List.pairwise_iff_getElem.1 hs i k (by omega) hk (by omega)
  have := key l.length (Nat.le_refl _)
  rwa [List.take_length] at this
theorem cov_perm {g : Gr} {a b : List Wh} (h : a.Perm b) (D : Nat) : cov g a D = cov g b D := funext fun s => by
  unfold cov
  rw [Bool.eq_iff_iff, List.any_eq_true, List.any_eq_true]
  exact ⟨fun ⟨x, hx, hq⟩ => ⟨x, h.mem_iff.1 hx, hq⟩, fun ⟨x, hx, hq⟩ => ⟨x, h.mem_iff.2 hx, hq⟩⟩
/-- the program's numbers are the document's -/
theorem atB_busy {g : Gr} (hg : rgrid g = true) {l rs : List Wh} (hp : rs.Perm (l.filter (right g))) (hs : RisS rs) {D : Nat} (hD : D < daysN g) : (atB g rs D).1 = ((cnt (inD g l D) g.s.toNat : Nat) : Int) := by
  have h := invB_all hg D rs (fun x hx => (List.mem_filter.1 (hp.mem_iff.1 hx)).2) hs
  rw [h.1, cov_perm hp, cnt_congr (fun s _ => inD_eq g l hD s)]
theorem atS_spread {g : Gr} {l rs : List Wh} (hp : rs.Perm (l.filter (right g))) (hs : RisS rs) {D : Nat} (hD : D < daysN g) : (atS g rs D).1 = spr (inD g l D) g.s.toNat := by
  have h := invS_all D rs (fun x hx => (List.mem_filter.1 (hp.mem_iff.1 hx)).2) hs
  rw [spr_congr (q := cov g rs D) (fun s _ => by rw [inD_eq g l hD s, cov_perm hp])]
  rcases h with ⟨h0, h1⟩ | ⟨h1, h2, h3, ⟨y, hy, h4⟩, h5, h6, h7⟩
  · rw [h0, spr_none (fun s _ => h1 s)]
  · have h8 := h7 _ h6
    rw [spr_some (A := (atS g rs D).2.toNat) (B := ((atS g rs D).2 + (atS g rs D).1 - 1).toNat) (by omega) (by omega) h5 h6 (fun s _ hc => by have := h7 s hc; omega)]
    omega
end Go.Proofs.YtgmgccepmalahaaGreat.Whn
namespace Go.Proofs.YtgmgccepmalahaaGreat.Whn

/-! ### times of a day as pairs: start, length -/
def prOf (x : Wh) : Int × Int := (x.s, x.l)
/-- does it stand ahead, or are they the same? -/
def leP (x y : Int × Int) : Bool := decide (x.1 < y.1 ∨ (x.1 = y.1 ∧ x.2 ≤ y.2))
theorem leP_iff (x y : Int × Int) : leP x y = true ↔ (x.1 < y.1 ∨ (x.1 = y.1 ∧ x.2 ≤ y.2)) := by unfold leP; rw [decide_eq_true_iff]
theorem leP_no (x y : Int × Int) : leP x y = false ↔ ¬ (x.1 < y.1 ∨ (x.1 = y.1 ∧ x.2 ≤ y.2)) := by unfold leP; rw [decide_eq_false_iff_not]
def insP (x : Int × Int) : List (Int × Int) → List (Int × Int)
  | [] => [x]
  | y :: l => if leP y x then y :: insP x l else x :: y :: l
def srtP (l : List (Int × Int)) : List (Int × Int) := l.foldl (fun acc x => insP x acc) []
def RisP (l : List (Int × Int)) : Prop := l.Pairwise fun x y => leP x y = true
theorem insP_perm (x : Int × Int) (l : List (Int × Int)) : (insP x l).Perm (x :: l) := by
  induction l with
  | nil => exact List.Perm.refl _
  | cons y l ih =>
    rw [insP]
    split
    · exact (List.Perm.cons y ih).trans (List.Perm.swap x y l)
    · exact List.Perm.refl _
theorem insP_ris {x : Int × Int} {l : List (Int × Int)} (h : RisP l) : RisP (insP x l) := by
  induction l with
  | nil => exact List.pairwise_singleton _ _
  | cons y l ih =>
    obtain ⟨h1, h2⟩ := List.pairwise_cons.1 h
    rw [insP]
    split
    · rename_i hy
      refine List.pairwise_cons.2 ⟨fun z hz => ?_, ih h2⟩
      rcases List.mem_cons.1 ((insP_perm x l).mem_iff.1 hz) with rfl | hz
      · exact hy
      · exact h1 z hz
    · rename_i hy
      have hy2 : leP y x = false := by simpa using hy
      rw [leP_no] at hy2
      refine List.pairwise_cons.2 ⟨fun z hz => ?_, h⟩
      rw [leP_iff]
      rcases List.mem_cons.1 hz with rfl | hz
      · omega
      · have := h1 z hz
        rw [leP_iff] at this
        omega
theorem srtP_foldl (l acc : List (Int × Int)) (h : RisP acc) : RisP (l.foldl (fun acc x => insP x acc) acc) ∧ (l.foldl (fun acc x => insP x acc) acc).Perm (acc ++ l) := by
  induction l generalizing acc with
  | nil => exact ⟨h, by rw [List.append_nil]; exact List.Perm.refl _⟩
  | cons x l ih =>
    obtain ⟨h1, h2⟩ := ih (insP x acc) (insP_ris h)
    refine ⟨h1, h2.trans ?_⟩
    have := (insP_perm x acc).append_right l
    refine this.trans ?_
    exact (List.perm_middle (l₁ := acc)).symm
theorem srtP_ris (l : List (Int × Int)) : RisP (srtP l) := (srtP_foldl l [] List.Pairwise.nil).1
theorem srtP_perm (l : List (Int × Int)) : (srtP l).Perm l := by have := (srtP_foldl l [] List.Pairwise.nil).2; rwa [List.nil_append] at this
theorem srtP_len (l : List (Int × Int)) : (srtP l).length = l.length := (srtP_perm l).length_eq
theorem srtP_snoc (l : List (Int × Int)) (x : Int × Int) : srtP (l ++ [x]) = insP x (srtP l) := by unfold srtP; rw [List.foldl_append]; rfl
/-- what rises is told by what is in it -/
theorem ris_one : ∀ {p q : List (Int × Int)}, RisP p → RisP q → p.Perm q → p = q := by
  intro p
  induction p with
  | nil => intro q _ _ h; exact (List.nil_perm.1 h).symm ▸ rfl
  | cons x p ih =>
    intro q hp hq h
    cases q with
    | nil => exact absurd h.symm (by intro h; have := h.length_eq; simp at this)
    | cons y q =>
      obtain ⟨p1, p2⟩ := List.pairwise_cons.1 hp
      obtain ⟨q1, q2⟩ := List.pairwise_cons.1 hq
      have hxy : x = y := by
        have m1 : x ∈ y :: q := h.mem_iff.1 (List.mem_cons_self ..)
        have m2 : y ∈ x :: p := h.mem_iff.2 (List.mem_cons_self ..)
        rcases List.mem_cons.1 m1 with e | m1
        · exact e
        · rcases List.mem_cons.1 m2 with e | m2
          · exact e.symm
          · have a1 := q1 x m1
            have a2 := p1 y m2
            rw [leP_iff] at a1 a2
            exact Prod.ext (by omega) (by omega)
      subst hxy
      rw [ih p2 q2 (List.Perm.cons_inv h)]
theorem srtP_of {p l : List (Int × Int)} (hr : RisP p) (hp : p.Perm l) : p = srtP l := ris_one hr (srtP_ris l) (hp.trans (srtP_perm l).symm)

/-! ### blocks -/
/-- a block from f on, that ends at e now and has c times; and those behind it -/
def bgo (gap f e c : Int) : List (Int × Int) → List (Int × Int)
  | [] => [(e - f, c)]
  | w :: ws => if gap < w.1 - e then (e - f, c) :: bgo gap w.1 (w.1 + w.2) 1 ws else bgo gap f (max e (w.1 + w.2)) (c + 1) ws
def blks (gap : Int) : List (Int × Int) → List (Int × Int)
  | [] => []
  | w :: ws => bgo gap w.1 (w.1 + w.2) 1 ws
/-- the first block is no less than what it is now -/
theorem bgo_first (gap f e c : Int) (ws : List (Int × Int)) : ∃ b ∈ bgo gap f e c ws, e - f ≤ b.1 ∧ c ≤ b.2 := by
  induction ws generalizing e c with
  | nil => exact ⟨_, List.mem_singleton.2 rfl, Int.le_refl _, Int.le_refl _⟩
  | cons w ws ih =>
    rw [bgo]
    split
    · exact ⟨_, List.mem_cons_self .., Int.le_refl _, Int.le_refl _⟩
    · obtain ⟨b, hb, h1, h2⟩ := ih (max e (w.1 + w.2)) (c + 1)
      exact ⟨b, hb, by omega, by omega⟩
/-- each block of the one is no greater than one of the other -/
def Dom (A B : List (Int × Int)) : Prop := ∀ b ∈ A, ∃ b' ∈ B, b.1 ≤ b'.1 ∧ b.2 ≤ b'.2
theorem Dom.refl (A : List (Int × Int)) : Dom A A := fun b hb => ⟨b, hb, Int.le_refl _, Int.le_refl _⟩
theorem Dom.trans {A B C : List (Int × Int)} (h1 : Dom A B) (h2 : Dom B C) : Dom A C := fun b hb => by
  obtain ⟨b1, m1, l1, l2⟩ := h1 b hb
  obtain ⟨b2, m2, l3, l4⟩ := h2 b1 m1
  exact ⟨b2, m2, Int.le_trans l1 l3, Int.le_trans l2 l4⟩
theorem Dom.cons {A B : List (Int × Int)} (x : Int × Int) (h : Dom A B) : Dom (x :: A) (x :: B) := fun b hb => by
  rcases List.mem_cons.1 hb with rfl | hb
  · exact ⟨b, List.mem_cons_self .., Int.le_refl _, Int.le_refl _⟩
  · obtain ⟨b1, m1, l1, l2⟩ := h b hb
    exact ⟨b1, List.mem_cons_of_mem _ m1, l1, l2⟩
theorem Dom.right {A B : List (Int × Int)} (x : Int × Int) (h : Dom A B) : Dom A (x :: B) := fun b hb => by
  obtain ⟨b1, m1, l1, l2⟩ := h b hb
  exact ⟨b1, List.mem_cons_of_mem _ m1, l1, l2⟩
/-- a greater state has greater blocks -/
theorem bgo_dom (gap : Int) : ∀ (ws : List (Int × Int)) (f e c f' e' c' : Int), f' ≤ f → e ≤ e' → c ≤ c' → 1 ≤ c' → RisP ws → (∀ w ∈ ws, f ≤ w.1) → Dom (bgo gap f e c ws) (bgo gap f' e' c' ws) := by
  intro ws
  induction ws with
  | nil =>
    intro f e c f' e' c' h1 h2 h3 _ _ _ b hb
    rw [bgo] at hb
    rw [List.mem_singleton.1 hb]
    exact ⟨_, List.mem_singleton.2 rfl, by show e - f ≤ e' - f'; omega, h3⟩
  | cons w ws ih =>
    intro f e c f' e' c' h1 h2 h3 h4 hr hw
    obtain ⟨r1, r2⟩ := List.pairwise_cons.1 hr
    have hf := hw w (List.mem_cons_self ..)
    have hws : ∀ z ∈ ws, w.1 ≤ z.1 := fun z hz => by have := r1 z hz; rw [leP_iff] at this; omega
    rw [bgo, bgo]
    by_cases g1 : gap < w.1 - e
    · rw [if_pos g1]
      by_cases g2 : gap < w.1 - e'
      · rw [if_pos g2]
        intro b hb
        rcases List.mem_cons.1 hb with rfl | hb
        · exact ⟨_, List.mem_cons_self .., by show e - f ≤ e' - f'; omega, h3⟩
        · exact ⟨b, List.mem_cons_of_mem _ hb, Int.le_refl _, Int.le_refl _⟩
      · rw [if_neg g2]
        intro b hb
        rcases List.mem_cons.1 hb with rfl | hb
        · obtain ⟨b', m, l1, l2⟩ := bgo_first gap f' (max e' (w.1 + w.2)) (c' + 1) ws
          exact ⟨b', m, by show e - f ≤ b'.1; omega, by show c ≤ b'.2; omega⟩
        · exact ih w.1 (w.1 + w.2) 1 f' (max e' (w.1 + w.2)) (c' + 1) (by omega) (by omega) (by omega) (by omega) r2 hws b hb
    · rw [if_neg g1, if_neg (show ¬ gap < w.1 - e' by omega)]
      exact ih f (max e (w.1 + w.2)) (c + 1) f' (max e' (w.1 + w.2)) (c' + 1) h1 (by omega) (by omega) (by omega) r2 (fun z hz => by have := hws z hz; omega)
/-- one more time, greater blocks -/
theorem bgo_ins (gap : Int) (x : Int × Int) : ∀ (ws : List (Int × Int)) (f e c : Int), f ≤ x.1 → 1 ≤ c → RisP ws → (∀ w ∈ ws, f ≤ w.1) → Dom (bgo gap f e c ws) (bgo gap f e c (insP x ws)) := by
  intro ws
  induction ws with
  | nil =>
    intro f e c hx hc _ _ b hb
    rw [bgo] at hb
    rw [List.mem_singleton.1 hb, insP, bgo]
    split
    · exact ⟨_, List.mem_cons_self .., Int.le_refl _, Int.le_refl _⟩
    · rw [bgo]
      exact ⟨_, List.mem_singleton.2 rfl, by show e - f ≤ max e (x.1 + x.2) - f; omega, by show c ≤ c + 1; omega⟩
  | cons w ws ih =>
    intro f e c hx hc hr hw
    obtain ⟨r1, r2⟩ := List.pairwise_cons.1 hr
    have hf := hw w (List.mem_cons_self ..)
    have hws : ∀ z ∈ ws, w.1 ≤ z.1 := fun z hz => by have := r1 z hz; rw [leP_iff] at this; omega
    rw [insP]
    by_cases hl : leP w x = true
    · rw [if_pos hl]
      rw [leP_iff] at hl
      rw [bgo, bgo]
      by_cases g1 : gap < w.1 - e
      · rw [if_pos g1, if_pos g1]
        exact Dom.cons _ (ih w.1 (w.1 + w.2) 1 (by omega) (by omega) r2 hws)
      · rw [if_neg g1, if_neg g1]
        exact ih f (max e (w.1 + w.2)) (c + 1) hx (by omega) r2 (fun z hz => by have := hws z hz; omega)
    · rw [if_neg hl]
      have hl2 : leP w x = false := by simpa using hl
      rw [leP_no] at hl2
      rw [show bgo gap f e c (x :: w :: ws) = if gap < x.1 - e then (e - f, c) :: bgo gap x.1 (x.1 + x.2) 1 (w :: ws) else bgo gap f (max e (x.1 + x.2)) (c + 1) (w :: ws) from rfl]
      by_cases g1 : gap < x.1 - e
      · rw [if_pos g1, bgo, if_pos (show gap < w.1 - e by omega)]
        refine Dom.cons _ ?_
        rw [bgo]
        by_cases g2 : gap < w.1 - (x.1 + x.2)
        · rw [if_pos g2]
          exact Dom.right _ (Dom.refl _)
        · rw [if_neg g2]
          exact bgo_dom gap ws w.1 (w.1 + w.2) 1 x.1 (max (x.1 + x.2) (w.1 + w.2)) (1 + 1) (by omega) (by omega) (by omega) (by omega) r2 hws
      · rw [if_neg g1]
        exact bgo_dom gap (w :: ws) f e c f (max e (x.1 + x.2)) (c + 1) (by omega) (by omega) (by omega) (by omega) hr hw
theorem blks_ins (gap : Int) (x : Int × Int) {ws : List (Int × Int)} (hr : RisP ws) : Dom (blks gap ws) (blks gap (insP x ws)) := by
  cases ws with
  | nil => intro b hb; cases hb
  | cons w ws =>
    obtain ⟨r1, r2⟩ := List.pairwise_cons.1 hr
    have hws : ∀ z ∈ ws, w.1 ≤ z.1 := fun z hz => by have := r1 z hz; rw [leP_iff] at this; omega
    rw [insP]
    by_cases hl : leP w x = true
    · rw [if_pos hl]
      rw [leP_iff] at hl
      exact bgo_ins gap x ws w.1 (w.1 + w.2) 1 (by omega) (by omega) r2 hws
    · rw [if_neg hl]
      have hl2 : leP w x = false := by simpa using hl
      rw [leP_no] at hl2
      show Dom (bgo gap w.1 (w.1 + w.2) 1 ws) (bgo gap x.1 (x.1 + x.2) 1 (w :: ws))
      rw [show bgo gap x.1 (x.1 + x.2) 1 (w :: ws) = if gap < w.1 - (x.1 + x.2) then (x.1 + x.2 - x.1, 1) :: bgo gap w.1 (w.1 + w.2) 1 ws else bgo gap x.1 (max (x.1 + x.2) (w.1 + w.2)) (1 + 1) ws from rfl]
      split
      · exact Dom.right _ (Dom.refl _)
      · exact bgo_dom gap ws w.1 (w.1 + w.2) 1 x.1 (max (x.1 + x.2) (w.1 + w.2)) (1 + 1) (by omega) (by omega) (by omega) (by omega) r2 hws
theorem blks_more (gap : Int) (p q : List (Int × Int)) : Dom (blks gap (srtP p)) (blks gap (srtP (p ++ q))) := by
  have key : ∀ (q acc : List (Int × Int)), RisP acc → Dom (blks gap acc) (blks gap (q.foldl (fun acc x => insP x acc) acc)) := by
    intro q
    induction q with
    | nil => intro acc _; exact Dom.refl _
    | cons x q ih => intro acc h; exact (blks_ins gap x h).trans (ih (insP x acc) (insP_ris h))
  have := key q (srtP p) (srtP_ris p)
  unfold srtP at this ⊢
  rw [List.foldl_append]
  exact this
/-! ### how many, how long -/
def sm (f : Int × Int → Int) : List (Int × Int) → Int
  | [] => 0
  | b :: l => f b + sm f l
theorem bgo_count (gap f e c : Int) (ws : List (Int × Int)) : sm (·.2) (bgo gap f e c ws) = c + ws.length := by
  induction ws generalizing f e c with
  | nil => rw [bgo]; show c + 0 = c + ((0 : Nat) : Int); omega
  | cons w ws ih =>
    rw [bgo, List.length_cons]
    split
    · show c + sm _ (bgo gap w.1 (w.1 + w.2) 1 ws) = _
      rw [ih]; omega
    · rw [ih]; omega
theorem blks_count (gap : Int) (ws : List (Int × Int)) : sm (·.2) (blks gap ws) = ws.length := by
  cases ws with
  | nil => rfl
  | cons w ws =>
    show sm _ (bgo gap w.1 (w.1 + w.2) 1 ws) = _
    rw [bgo_count, List.length_cons]; omega
theorem bgo_len (gap f e c : Int) (ws : List (Int × Int)) : 1 ≤ (bgo gap f e c ws).length ∧ (bgo gap f e c ws).length ≤ ws.length + 1 := by
  induction ws generalizing f e c with
  | nil => exact ⟨Nat.le_refl _, Nat.le_refl _⟩
  | cons w ws ih =>
    rw [bgo, List.length_cons]
    split
    · have := ih w.1 (w.1 + w.2) 1
      rw [List.length_cons]; omega
    · have := ih f (max e (w.1 + w.2)) (c + 1)
      omega
theorem blks_len (gap : Int) (ws : List (Int × Int)) : (blks gap ws).length ≤ ws.length := by
  cases ws with
  | nil => exact Nat.le_refl _
  | cons w ws => exact (bgo_len gap w.1 (w.1 + w.2) 1 ws).2
/-- with longer breaks there are no more blocks -/
theorem bgo_gap {g1 g2 : Int} (hg : g1 ≤ g2) : ∀ (ws : List (Int × Int)) (f e c f' e' c' : Int), e ≤ e' → (bgo g2 f' e' c' ws).length ≤ (bgo g1 f e c ws).length := by
  intro ws
  induction ws with
  | nil => intro f e c f' e' c' _; exact Nat.le_refl _
  | cons w ws ih =>
    intro f e c f' e' c' he
    rw [bgo, bgo]
    by_cases h2 : g2 < w.1 - e'
    · rw [if_pos h2, if_pos (show g1 < w.1 - e by omega), List.length_cons, List.length_cons]
      exact Nat.succ_le_succ (ih _ _ _ _ _ _ (Int.le_refl _))
    · rw [if_neg h2]
      split
      · rw [List.length_cons]
        exact Nat.le_succ_of_le (ih _ _ _ _ _ _ (by omega))
      · exact ih _ _ _ _ _ _ (by omega)
theorem blks_gap {g1 g2 : Int} (hg : g1 ≤ g2) (ws : List (Int × Int)) : (blks g2 ws).length ≤ (blks g1 ws).length := by
  cases ws with
  | nil => exact Nat.le_refl _
  | cons w ws => exact bgo_gap hg ws _ _ _ _ _ _ (Int.le_refl _)
/-- with the longest breaks there is one -/
theorem bgo_wide {gap : Int} : ∀ (ws : List (Int × Int)) (f e c : Int), 0 ≤ e → (∀ w ∈ ws, w.1 ≤ gap ∧ 0 ≤ w.2 ∧ 0 ≤ w.1) → (bgo gap f e c ws).length = 1 := by
  intro ws
  induction ws with
  | nil => intro f e c _ _; rfl
  | cons w ws ih =>
    intro f e c he hw
    have h1 := hw w (List.mem_cons_self ..)
    rw [bgo, if_neg (by omega)]
    exact ih f (max e (w.1 + w.2)) (c + 1) (by omega) (fun z hz => hw z (List.mem_cons_of_mem _ hz))
theorem blks_wide {gap : Int} {ws : List (Int × Int)} (hw : ∀ w ∈ ws, w.1 ≤ gap ∧ 0 ≤ w.2 ∧ 0 ≤ w.1) : (blks gap ws).length = min ws.length 1 := by
  cases ws with
  | nil => rfl
  | cons w ws =>
    have h1 := hw w (List.mem_cons_self ..)
    show (bgo gap w.1 (w.1 + w.2) 1 ws).length = _
    rw [bgo_wide ws _ _ _ (by omega) (fun z hz => hw z (List.mem_cons_of_mem _ hz)), List.length_cons]
    omega
/-- the blocks are as long as what they cover -/
def covP (ws : List (Int × Int)) (s : Nat) : Bool := ws.any fun w => decide (w.1 ≤ (s : Int) ∧ (s : Int) < w.1 + w.2)
theorem cnt_or_le (q r : Nat → Bool) (n : Nat) : cnt (fun s => q s || r s) n ≤ cnt q n + cnt r n := by
  rw [cnt_or]
  have : cnt (fun s => r s && !(q s)) n ≤ cnt r n := cnt_mono (fun s _ h => by rw [Bool.and_eq_true] at h; exact h.1)
  omega
theorem bgo_long (gap : Int) (n : Nat) : ∀ (ws : List (Int × Int)) (f e c : Int), 0 ≤ f → f ≤ e → RisP ws → (∀ w ∈ ws, f ≤ w.1 ∧ 0 ≤ w.2) →
    ((cnt (fun s => decide (f ≤ (s : Int) ∧ (s : Int) < e) || covP ws s) n : Nat) : Int) ≤ sm (·.1) (bgo gap f e c ws) := by
  intro ws
  induction ws with
  | nil =>
    intro f e c h0 h1 _ _
    rw [bgo]
    have e1 := cnt_span f e n h0
    rw [cnt_congr (q := fun s => decide (f ≤ (s : Int) ∧ (s : Int) < e)) (fun s _ => by show (_ || false) = _; rw [Bool.or_false]), e1]
    show _ ≤ e - f + 0
    omega
  | cons w ws ih =>
    intro f e c h0 h1 hr hw
    obtain ⟨r1, r2⟩ := List.pairwise_cons.1 hr
    have hf := hw w (List.mem_cons_self ..)
    have hws : ∀ z ∈ ws, w.1 ≤ z.1 ∧ 0 ≤ z.2 := fun z hz => by have := r1 z hz; rw [leP_iff] at this; exact ⟨by omega, (hw z (List.mem_cons_of_mem _ hz)).2⟩
    have hcov : ∀ s, covP (w :: ws) s = (decide (w.1 ≤ (s : Int) ∧ (s : Int) < w.1 + w.2) || covP ws s) := fun s => rfl
    rw [bgo]
    split
    · have i1 := ih w.1 (w.1 + w.2) 1 (by omega) (by omega) r2 hws
      have e1 := cnt_span f e n h0
      have e2 := cnt_or_le (fun s => decide (f ≤ (s : Int) ∧ (s : Int) < e)) (fun s => decide (w.1 ≤ (s : Int) ∧ (s : Int) < w.1 + w.2) || covP ws s) n
      rw [cnt_congr (q := fun s => decide (f ≤ (s : Int) ∧ (s : Int) < e) || (decide (w.1 ≤ (s : Int) ∧ (s : Int) < w.1 + w.2) || covP ws s)) (fun s _ => by rw [hcov])]
      show _ ≤ e - f + sm _ (bgo gap w.1 (w.1 + w.2) 1 ws)
      omega
    · have i1 := ih f (max e (w.1 + w.2)) (c + 1) h0 (by omega) r2 (fun z hz => ⟨by have := hws z hz; omega, (hws z hz).2⟩)
      have e2 : cnt (fun s => decide (f ≤ (s : Int) ∧ (s : Int) < e) || covP (w :: ws) s) n ≤ cnt (fun s => decide (f ≤ (s : Int) ∧ (s : Int) < max e (w.1 + w.2)) || covP ws s) n := cnt_mono (fun s _ h => by
        rw [hcov] at h
        simp only [Bool.or_eq_true, decide_eq_true_iff] at h ⊢
        rcases h with h | h | h
        · exact .inl (by omega)
        · exact .inl (by omega)
        · exact .inr h)
      omega
theorem blks_long (gap : Int) (n : Nat) {ws : List (Int × Int)} (hr : RisP ws) (hw : ∀ w ∈ ws, 0 ≤ w.1 ∧ 0 ≤ w.2) : ((cnt (covP ws) n : Nat) : Int) ≤ sm (·.1) (blks gap ws) := by
  cases ws with
  | nil =>
    have : cnt (covP []) n = 0 := by
      induction n with
      | zero => rfl
      | succ n ih => rw [cnt, ih]; rfl
    rw [this]
    exact Int.le_refl _
  | cons w ws =>
    obtain ⟨r1, r2⟩ := List.pairwise_cons.1 hr
    have h0 := hw w (List.mem_cons_self ..)
    exact bgo_long gap n ws w.1 (w.1 + w.2) 1 h0.1 (by omega) r2 (fun z hz => by have := r1 z hz; rw [leP_iff] at this; exact ⟨by omega, (hw z (List.mem_cons_of_mem _ hz)).2⟩)
end Go.Proofs.YtgmgccepmalahaaGreat.Whn
namespace Go.Proofs.YtgmgccepmalahaaGreat.Whn

def dayW (g : Gr) (l : List Wh) (D : Nat) : List Wh := l.filter fun x => right g x && dayOn g x D
def dayP (g : Gr) (l : List Wh) (D : Nat) : List (Int × Int) := (dayW g l D).map prOf
def blkN (gap : Int) (g : Gr) (l : List Wh) (D : Nat) : List (Int × Int) := blks (max gap 0) (srtP (dayP g l D))
/-- the blocks of any day -/
def blkV (g : Gr) (l : List Wh) (day gap : Int) : List (Int × Int) := if 0 ≤ day ∧ day < daysN g then blkN gap g l day.toNat else []
/-- on how many days of the week -/
def dayC (g : Gr) (l : List Wh) : Int := ((cnt (fun d => l.any fun x => right g x && x.d.testBit d) 7 : Nat) : Int)
def busyN (g : Gr) (l : List Wh) (D : Nat) : Int := ((cnt (inD g l D) g.s.toNat : Nat) : Int)
def sumN (f : Nat → Int) : Nat → Int
  | 0 => 0
  | n + 1 => sumN f n + f n
def cntB (a : Int) : List (Int × Int) → Int
  | [] => 0
  | b :: l => (if 1 < b.2 ∧ a < b.1 then 1 else 0) + cntB a l
/-- what one day adds -/
def ovrD (g : Gr) (k a b : Int) (l : List Wh) (D : Nat) : Int :=
  if k = 22 then max (busyN g l D - a) 0 else if k = 23 then max (((blkN b g l D).length : Int) - 1 - a) 0 else if k = 24 then cntB a (blkN b g l D) else 0
def ovr (g : Gr) (k a b : Int) (l : List Wh) : Int := if k = 21 then max (dayC g l - max a 0) 0 else sumN (ovrD g k (max a 0) b l) (daysN g)
def brkV (g : Gr) (k a b : Int) (l : List Wh) (whole : Bool) : Bool := (whole || !decide (k = 23)) && decide (0 < ovr g k a b l)
def leastV (g : Gr) (k a b : Int) (l : List Wh) (whole : Bool) : Int := if !whole && (decide (k = 23) || decide (k = 24)) then 0 else ovr g k a b l

/-! ### sums -/
theorem sumN_mono {f h : Nat → Int} {n : Nat} (H : ∀ D, D < n → f D ≤ h D) : sumN f n ≤ sumN h n := by
  induction n with
  | zero => exact Int.le_refl _
  | succ n ih =>
    have := ih (fun D hD => H D (by omega))
    have := H n (by omega)
    rw [sumN, sumN]; omega
theorem sumN_congr {f h : Nat → Int} {n : Nat} (H : ∀ D, D < n → f D = h D) : sumN f n = sumN h n := by
  induction n with
  | zero => rfl
  | succ n ih => rw [sumN, sumN, ih (fun D hD => H D (by omega)), H n (by omega)]
theorem sumN_ge {f : Nat → Int} {n : Nat} (H : ∀ D, D < n → 0 ≤ f D) : 0 ≤ sumN f n := by
  induction n with
  | zero => exact Int.le_refl _
  | succ n ih =>
    have := ih (fun D hD => H D (by omega))
    have := H n (by omega)
    rw [sumN]; omega
theorem sumN_le {f : Nat → Int} {n : Nat} {M : Int} (H : ∀ D, D < n → f D ≤ M) : sumN f n ≤ (n : Int) * M := by
  induction n with
  | zero => rw [sumN]; omega
  | succ n ih =>
    have := ih (fun D hD => H D (by omega))
    have := H n (by omega)
    rw [sumN, show ((n + 1 : Nat) : Int) * M = (n : Int) * M + M by push_cast; rw [Int.add_mul, Int.one_mul]]
    omega
theorem sumN_pos {f : Nat → Int} {n : Nat} (H : ∀ D, D < n → 0 ≤ f D) : 0 < sumN f n ↔ ∃ D, D < n ∧ 0 < f D := by
  induction n with
  | zero => exact ⟨fun h => absurd h (Int.lt_irrefl 0), fun ⟨D, h, _⟩ => absurd h (Nat.not_lt_zero D)⟩
  | succ n ih =>
    have i1 := ih (fun D hD => H D (by omega))
    have h1 := sumN_ge (f := f) (n := n) (fun D hD => H D (by omega))
    have h2 := H n (by omega)
    rw [sumN]
    constructor
    · intro h
      by_cases hn : 0 < f n
      · exact ⟨n, by omega, hn⟩
      · obtain ⟨D, a, b⟩ := i1.1 (by omega)
        exact ⟨D, by omega, b⟩
    · rintro ⟨D, a, b⟩
      rcases Nat.lt_or_ge D n with h | h
      · have := i1.2 ⟨D, h, b⟩; omega
      · obtain rfl : D = n := by omega
        omega
theorem cntB_bnd (a : Int) (l : List (Int × Int)) : 0 ≤ cntB a l ∧ cntB a l ≤ l.length := by
  induction l with
  | nil => exact ⟨Int.le_refl _, Int.le_refl _⟩
  | cons b l ih => rw [cntB, List.length_cons]; split <;> omega
theorem cntB_pos (a : Int) (l : List (Int × Int)) : 0 < cntB a l ↔ ∃ b ∈ l, 1 < b.2 ∧ a < b.1 := by
  induction l with
  | nil => exact ⟨fun h => absurd h (Int.lt_irrefl 0), fun ⟨b, h, _⟩ => by cases h⟩
  | cons x l ih =>
    have := cntB_bnd a l
    rw [cntB]
    by_cases hx : 1 < x.2 ∧ a < x.1
    · rw [if_pos hx]
      exact ⟨fun _ => ⟨x, List.mem_cons_self .., hx⟩, fun _ => by omega⟩
    · rw [if_neg hx, Int.zero_add, ih]
      constructor
      · rintro ⟨b, hb, h⟩; exact ⟨b, List.mem_cons_of_mem _ hb, h⟩
      · rintro ⟨b, hb, h⟩
        rcases List.mem_cons.1 hb with rfl | hb
        · exact absurd h hx
        · exact ⟨b, hb, h⟩
theorem cntB_less {a c : Int} (h : a ≤ c) (l : List (Int × Int)) : cntB c l ≤ cntB a l := by
  induction l with
  | nil => exact Int.le_refl _
  | cons x l ih =>
    rw [cntB, cntB]
    by_cases hx : 1 < x.2 ∧ c < x.1
    · rw [if_pos hx, if_pos ⟨hx.1, by omega⟩]; omega
    · rw [if_neg hx]; split <;> omega
theorem dayW_len (g : Gr) (l : List Wh) (D : Nat) : (dayW g l D).length ≤ l.length := List.length_filter_le _ _
theorem dayP_len (g : Gr) (l : List Wh) (D : Nat) : (dayP g l D).length = (dayW g l D).length := List.length_map ..
theorem blkN_len (gap : Int) (g : Gr) (l : List Wh) (D : Nat) : (blkN gap g l D).length ≤ l.length := by
  have h1 := blks_len (max gap 0) (srtP (dayP g l D))
  rw [srtP_len, dayP_len] at h1
  exact Nat.le_trans h1 (dayW_len g l D)
theorem daysN_slots {g : Gr} {D : Nat} (hD : D < daysN g) : rgrid g = true ∧ 1 ≤ g.s ∧ g.s ≤ 96 := by
  unfold daysN at hD
  split at hD
  · rename_i hg
    obtain ⟨g1, g2, g3, g4, g5, g6⟩ := (rgrid_iff g).1 hg
    exact ⟨hg, g5, g6⟩
  · omega
theorem busyN_bnd (g : Gr) (l : List Wh) {D : Nat} (hD : D < daysN g) : 0 ≤ busyN g l D ∧ busyN g l D ≤ 96 := by
  have := cnt_le (inD g l D) g.s.toNat
  have := (daysN_slots hD).2
  unfold busyN
  omega
theorem ovrD_bnd (g : Gr) (k a b : Int) (l : List Wh) (ha : 0 ≤ a) {D : Nat} (hD : D < daysN g) : 0 ≤ ovrD g k a b l D ∧ ovrD g k a b l D ≤ 96 + l.length := by
  have h1 := busyN_bnd g l hD
  have h2 := blkN_len b g l D
  have h3 := cntB_bnd a (blkN b g l D)
  unfold ovrD
  split
  · omega
  · split
    · omega
    · split <;> omega
theorem dayC_bnd (g : Gr) (l : List Wh) : 0 ≤ dayC g l ∧ dayC g l ≤ 7 := by
  have := cnt_le (fun d => l.any fun x => right g x && x.d.testBit d) 7
  unfold dayC
  omega
theorem ovr_bnd (g : Gr) (k a b : Int) (l : List Wh) (hl : l.length ≤ 10000) : 0 ≤ ovr g k a b l ∧ ovr g k a b l ≤ 2000000 := by
  unfold ovr
  split
  · have := dayC_bnd g l; omega
  · have h1 := sumN_ge (f := ovrD g k (max a 0) b l) (n := daysN g) (fun D hD => (ovrD_bnd g k (max a 0) b l (by omega) hD).1)
    have h2 := sumN_le (f := ovrD g k (max a 0) b l) (n := daysN g) (M := 96 + l.length) (fun D hD => (ovrD_bnd g k (max a 0) b l (by omega) hD).2)
    have h3 := daysN_le g
    have h4 : (daysN g : Int) * (96 + (l.length : Int)) ≤ 140 * 10096 := Int.mul_le_mul (by omega) (by omega) (by omega) (by omega)
    omega

/-! ### more times -/
theorem dayW_append (g : Gr) (l m : List Wh) (D : Nat) : dayW g (l ++ m) D = dayW g l D ++ dayW g m D := List.filter_append ..
theorem blkN_more (gap : Int) (g : Gr) (l m : List Wh) (D : Nat) : Dom (blkN gap g l D) (blkN gap g (l ++ m) D) := by
  unfold blkN dayP
  rw [dayW_append, List.map_append]
  exact blks_more _ _ _
theorem dayC_more (g : Gr) (l m : List Wh) : dayC g l ≤ dayC g (l ++ m) := by
  unfold dayC
  have := cnt_mono (p := fun d => l.any fun x => right g x && x.d.testBit d) (q := fun d => (l ++ m).any fun x => right g x && x.d.testBit d) (n := 7) (fun s _ h => by
    show ((l ++ m).any _) = true
    rw [List.any_append, Bool.or_eq_true]; exact .inl h)
  omega
theorem busyN_more (g : Gr) (l m : List Wh) (D : Nat) : busyN g l D ≤ busyN g (l ++ m) D := by
  unfold busyN
  have := cnt_mono (p := inD g l D) (q := inD g (l ++ m) D) (n := g.s.toNat) (fun s _ h => by
    unfold inD at h ⊢
    rw [List.any_append, Bool.or_eq_true]; exact .inl h)
  omega
theorem brk_grows {g : Gr} {k a b : Int} {l : List Wh} (m : List Wh) (h : brkV g k a b l false = true) : brkV g k a b (l ++ m) false = true := by
  unfold brkV at h ⊢
  rw [Bool.and_eq_true, decide_eq_true_iff] at h ⊢
  refine ⟨h.1, ?_⟩
  have h0 := h.2
  unfold ovr at h0 ⊢
  by_cases h21 : k = 21
  · rw [if_pos h21] at h0 ⊢
    have := dayC_more g l m
    omega
  · rw [if_neg h21] at h0 ⊢
    have nn : ∀ l' D, D < daysN g → 0 ≤ ovrD g k (max a 0) b l' D := fun l' D hD => (ovrD_bnd g k (max a 0) b l' (by omega) hD).1
    rw [sumN_pos (nn _)] at h0 ⊢
    obtain ⟨D, hD, hp⟩ := h0
    refine ⟨D, hD, ?_⟩
    unfold ovrD at hp ⊢
    by_cases h22 : k = 22
    · rw [if_pos h22] at hp ⊢
      have := busyN_more g l m D
      omega
    · rw [if_neg h22] at hp ⊢
      have h23 : k ≠ 23 := by
        have := h.1
        simpa using this
      rw [if_neg h23] at hp ⊢
      by_cases h24 : k = 24
      · rw [if_pos h24] at hp ⊢
        rw [cntB_pos] at hp ⊢
        obtain ⟨x, hx, q1, q2⟩ := hp
        obtain ⟨y, hy, q3, q4⟩ := blkN_more b g l m D x hx
        exact ⟨y, hy, by omega, by omega⟩
      · rw [if_neg h24] at hp
        exact absurd hp (Int.lt_irrefl 0)
theorem least_grows (g : Gr) (k a b : Int) (l m : List Wh) : leastV g k a b l false ≤ leastV g k a b (l ++ m) false := by
  unfold leastV
  by_cases h : k = 23 ∨ k = 24
  · have e : (!false && (decide (k = 23) || decide (k = 24))) = true := by rcases h with h | h <;> simp [h]
    rw [e, if_pos rfl, if_pos rfl]
    exact Int.le_refl _
  · have e : (!false && (decide (k = 23) || decide (k = 24))) = false := by
      have h1 : k ≠ 23 := fun e => h (.inl e)
      have h2 : k ≠ 24 := fun e => h (.inr e)
      simp [h1, h2]
    rw [e, if_neg (by decide), if_neg (by decide)]
    unfold ovr
    split
    · have := dayC_more g l m; omega
    · refine sumN_mono fun D hD => ?_
      unfold ovrD
      split
      · have := busyN_more g l m D; omega
      · rw [if_neg (fun e => h (.inl e)), if_neg (fun e => h (.inr e)), if_neg (fun e => h (.inl e)), if_neg (fun e => h (.inr e))]
        exact Int.le_refl _
/-- of more that may be no more is passed -/
theorem ovr_less (g : Gr) (k b : Int) (l : List Wh) {a c : Int} (h : a ≤ c) : ovr g k c b l ≤ ovr g k a b l := by
  unfold ovr
  split
  · omega
  · refine sumN_mono fun D hD => ?_
    unfold ovrD
    split
    · omega
    · split
      · omega
      · split
        · exact cntB_less (by omega) _
        · exact Int.le_refl _
theorem ovr_load (g : Gr) (a b : Int) (l : List Wh) (ha : 0 ≤ a) : ovr g 22 a b l = sumN (fun D => max (busyN g l D - a) 0) (daysN g) := by
  unfold ovr
  rw [if_neg (by decide)]
  refine sumN_congr fun D _ => ?_
  unfold ovrD
  rw [if_pos rfl, show max a 0 = a by omega]
theorem ovr_days (g : Gr) (a b : Int) (l : List Wh) (ha : 0 ≤ a) : ovr g 21 a b l = max (dayC g l - a) 0 := by
  unfold ovr
  rw [if_pos rfl, show max a 0 = a by omega]

/-! ### what stands in the blocks -/
/-- the whole of a day -/
def whole (g : Gr) (D : Nat) : Wh := ⟨2 ^ (D / g.d.toNat), 2 ^ (D % g.d.toNat), 0, 96⟩
theorem and_pow (n i : Nat) : (n &&& 2 ^ i ≠ 0) ↔ n.testBit i = true := by
  constructor
  · intro h
    cases hb : n.testBit i with
    | true => rfl
    | false =>
      refine absurd (Nat.eq_of_testBit_eq fun j => ?_) h
      rw [Nat.testBit_and, Nat.testBit_two_pow, Nat.zero_testBit]
      by_cases e : i = j
      · subst e; rw [hb]; rfl
      · rw [decide_eq_false e, Bool.and_false]
  · intro h e
    have h2 := congrArg (fun z => z.testBit i) e
    simp only [Nat.testBit_and, Nat.testBit_two_pow, h, Nat.zero_testBit, decide_true, Bool.and_self] at h2
    cases h2
theorem meet_whole {g : Gr} {x : Wh} (h : right g x = true) (D : Nat) : meet x (whole g D) = dayOn g x D := by
  obtain ⟨hg, _, _, h3, h4, h5, _⟩ := (right_iff g x).1 h
  obtain ⟨g1, g2, g3, g4, g5, g6⟩ := (rgrid_iff g).1 hg
  have ht := right_tame h
  have ht2 : tame (whole g D) = true := by rw [tame_iff]; show 0 ≤ (0 : Int) ∧ (0 : Int) ≤ 96 ∧ 1 ≤ (96 : Int) ∧ (96 : Int) ≤ 96; omega
  have hs : slots x (whole g D) = true := by
    unfold slots
    rw [decide_eq_true_iff]
    show max x.s 0 < min (x.s + x.l) (0 + 96)
    omega
  unfold meet sameDay dayOn
  rw [ht, ht2, hs, Bool.true_and, Bool.true_and, Bool.and_true, Bool.eq_iff_iff, decide_eq_true_iff, Bool.and_eq_true]
  show (x.w &&& 2 ^ (D / g.d.toNat) ≠ 0 ∧ x.d &&& 2 ^ (D % g.d.toNat) ≠ 0) ↔ _
  rw [and_pow, and_pow]
theorem blkN_count (gap : Int) (g : Gr) (l : List Wh) (D : Nat) : sm (·.2) (blkN gap g l D) = ((dayW g l D).length : Int) := by
  unfold blkN
  rw [blks_count, srtP_len, dayP_len]
theorem dayP_bnd {g : Gr} {l : List Wh} {D : Nat} {p : Int × Int} (h : p ∈ srtP (dayP g l D)) : 0 ≤ p.1 ∧ p.1 ≤ 95 ∧ 1 ≤ p.2 ∧ p.1 + p.2 ≤ 96 := by
  have hm := (srtP_perm _).mem_iff.1 h
  unfold dayP dayW at hm
  obtain ⟨x, hx, rfl⟩ := List.mem_map.1 hm
  rw [List.mem_filter, Bool.and_eq_true] at hx
  obtain ⟨hg, _, _, h3, h4, h5, _⟩ := (right_iff g x).1 hx.2.1
  obtain ⟨g1, g2, g3, g4, g5, g6⟩ := (rgrid_iff g).1 hg
  show 0 ≤ x.s ∧ x.s ≤ 95 ∧ 1 ≤ x.l ∧ x.s + x.l ≤ 96
  omega
theorem blkN_long (gap : Int) (g : Gr) (l : List Wh) {D : Nat} (hD : D < daysN g) : busyN g l D ≤ sm (·.1) (blkN gap g l D) := by
  have h1 := blks_long (max gap 0) g.s.toNat (srtP_ris (dayP g l D)) (fun w hw => by have := dayP_bnd hw; omega)
  have h2 : cnt (inD g l D) g.s.toNat = cnt (covP (srtP (dayP g l D))) g.s.toNat := cnt_congr fun s _ => by
    unfold inD covP
    rw [Bool.eq_iff_iff, List.any_eq_true, List.any_eq_true]
    constructor
    · rintro ⟨x, hx, h⟩
      rw [Bool.and_eq_true] at h
      have hon := h.2
      rw [on_day h.1 hD, Bool.and_eq_true] at hon
      refine ⟨prOf x, (srtP_perm _).mem_iff.2 (List.mem_map.2 ⟨x, ?_, rfl⟩), hon.2⟩
      unfold dayW
      rw [List.mem_filter, Bool.and_eq_true]
      exact ⟨hx, h.1, hon.1⟩
    · rintro ⟨p, hp, h⟩
      obtain ⟨x, hx, rfl⟩ := List.mem_map.1 ((srtP_perm _).mem_iff.1 hp)
      unfold dayW at hx
      rw [List.mem_filter, Bool.and_eq_true] at hx
      refine ⟨x, hx.1, ?_⟩
      rw [Bool.and_eq_true]
      refine ⟨hx.2.1, ?_⟩
      rw [on_day hx.2.1 hD, Bool.and_eq_true]
      exact ⟨hx.2.2, h⟩
  unfold busyN blkN
  rw [h2]
  exact h1
theorem blkN_gap {g1 g2 : Int} (h : g1 ≤ g2) (g : Gr) (l : List Wh) (D : Nat) : (blkN g2 g l D).length ≤ (blkN g1 g l D).length := blks_gap (by omega) _
theorem blkN_wide (g : Gr) (l : List Wh) (D : Nat) : (blkN 96 g l D).length = min (dayW g l D).length 1 := by
  unfold blkN
  rw [blks_wide (fun w hw => by have := dayP_bnd hw; omega), srtP_len, dayP_len]
end Go.Proofs.YtgmgccepmalahaaGreat.Whn
namespace Go.Proofs.YtgmgccepmalahaaGreat
open Go.RowKit
open Whn (Gr Wh)

end Go.Proofs.YtgmgccepmalahaaGreat
namespace Go.Proofs.YtgmgccepmalahaaGreat
open Go.RowKit
open Whn (Gr Wh)

/-- is a number from one to another one? -/
def frB (n lo hi : Int) : Bool := decide (lo ≤ n) && decide (n ≤ hi)
def mkB (k : Int) : Bool := frB k 21 24
def kn15 (k : Int) : Bool := frB k 1 14
def rtV (k a b : Int) : Bool :=
  if k = 21 then frB a 1 7 && decide (b = 0) else
  if k = 22 ∨ k = 13 then frB a 1 96 && decide (b = 0) else
  if k = 23 then frB a 0 48 && frB b 0 96 else
  if k = 24 then frB a 1 96 && frB b 0 96 else
  kn15 k && (decide (a = 0) && decide (b = 0))
theorem r16_from (n lo hi : Int) (w : World) : Calls Tryz.prog 149 #[.int .i64 n, .int .i64 lo, .int .i64 hi] w (fun e w' => e = .returned (.bool (frB n lo hi)) ∧ w = w') := by
  by_cases h1 : lo ≤ n
  · have h2 := hid (show decide (n ≤ hi) = frB n lo hi by show _ = frB n (lo) (hi); unfold frB; rw [decide_eq_true h1, Bool.true_and])
    go_enter Tryz.func149, Tryz.ntmps149
    go_wp2_with fail
    go_ret
    exact ⟨congrArg (fun z => Ending.returned (Value.bool z)) h2.out, rfl⟩
  · have h2 := hid (show false = frB n lo hi by show _ = frB n (lo) (hi); unfold frB; rw [decide_eq_false h1, Bool.false_and])
    go_enter Tryz.func149, Tryz.ntmps149
    go_wp2_with fail
    go_ret
    exact ⟨congrArg (fun z => Ending.returned (Value.bool z)) h2.out, rfl⟩
theorem r16_Known (n : Int) (w : World) : Calls Tryz.prog 63 #[.int .i64 n] w (fun e w' => e = .returned (.bool (mkB n)) ∧ w = w') := by
  by_cases h1 : 21 ≤ n
  · have h2 := hid (show decide (n ≤ 24) = mkB n by show _ = frB n (21) (24); unfold frB; rw [decide_eq_true h1, Bool.true_and])
    go_enter Tryz.func63, Tryz.ntmps63
    go_wp2_with fail
    go_ret
    exact ⟨congrArg (fun z => Ending.returned (Value.bool z)) h2.out, rfl⟩
  · have h2 := hid (show false = mkB n by show _ = frB n (21) (24); unfold frB; rw [decide_eq_false h1, Bool.false_and])
    go_enter Tryz.func63, Tryz.ntmps63
    go_wp2_with fail
    go_ret
    exact ⟨congrArg (fun z => Ending.returned (Value.bool z)) h2.out, rfl⟩
theorem r16_kn15 (n : Int) (w : World) : Calls Tryz.prog 62 #[.int .i64 n] w (fun e w' => e = .returned (.bool (kn15 n)) ∧ w = w') := by
  by_cases h1 : 1 ≤ n
  · have h2 := hid (show decide (n ≤ 14) = kn15 n by show _ = frB n (1) (14); unfold frB; rw [decide_eq_true h1, Bool.true_and])
    go_enter Tryz.func62, Tryz.ntmps62
    go_wp2_with fail
    go_ret
    exact ⟨congrArg (fun z => Ending.returned (Value.bool z)) h2.out, rfl⟩
  · have h2 := hid (show false = kn15 n by show _ = frB n (1) (14); unfold frB; rw [decide_eq_false h1, Bool.false_and])
    go_enter Tryz.func62, Tryz.ntmps62
    go_wp2_with fail
    go_ret
    exact ⟨congrArg (fun z => Ending.returned (Value.bool z)) h2.out, rfl⟩
theorem deq (b : Int) : decide (b = 0) = (b == 0) := by rw [Bool.eq_iff_iff, decide_eq_true_iff, beq_iff_eq]
theorem r16_Right (k a b : Int) (w : World) : Calls Tryz.prog 64 #[.int .i64 k, .int .i64 a, .int .i64 b] w (fun e w' => e = .returned (.bool (rtV k a b)) ∧ w = w') := by
  by_cases h21 : k = 21
  · subst h21
    have Hr := hid (show rtV 21 a b = (frB a 1 7 && (b == 0)) from (by unfold rtV; simp [deq]))
    have H1 := hid (fun X => r16_from a 1 7 X)
    generalize frB a 1 7 = f1 at *
    generalize rtV 21 a b = q at *
    go_enter Tryz.func64, Tryz.ntmps64
    go_wp2_with fail
    refine (H1.out _).mono ?_
    rintro e w1 ⟨rfl, rfl⟩
    cases f1 with
    | false =>
      go_wp2_with fail
      go_ret
      exact ⟨congrArg (fun z => Ending.returned (Value.bool z)) (by rw [Hr.out]; rfl), rfl⟩
    | true =>
      go_wp2_with fail
      go_ret
      exact ⟨congrArg (fun z => Ending.returned (Value.bool z)) (by rw [Hr.out, Bool.true_and]), rfl⟩
  by_cases h22 : k = 22
  · subst h22
    have Hr := hid (show rtV 22 a b = (frB a 1 96 && (b == 0)) from (by unfold rtV; simp [deq]))
    have H1 := hid (fun X => r16_from a 1 96 X)
    generalize frB a 1 96 = f1 at *
    generalize rtV 22 a b = q at *
    go_enter Tryz.func64, Tryz.ntmps64
    go_wp2_with fail
    refine (H1.out _).mono ?_
    rintro e w1 ⟨rfl, rfl⟩
    cases f1 with
    | false =>
      go_wp2_with fail
      go_ret
      exact ⟨congrArg (fun z => Ending.returned (Value.bool z)) (by rw [Hr.out]; rfl), rfl⟩
    | true =>
      go_wp2_with fail
      go_ret
      exact ⟨congrArg (fun z => Ending.returned (Value.bool z)) (by rw [Hr.out, Bool.true_and]), rfl⟩
  by_cases h13 : k = 13
  · subst h13
    have Hr := hid (show rtV 13 a b = (frB a 1 96 && (b == 0)) from (by unfold rtV; simp [deq]))
    have H1 := hid (fun X => r16_from a 1 96 X)
    generalize frB a 1 96 = f1 at *
    generalize rtV 13 a b = q at *
    go_enter Tryz.func64, Tryz.ntmps64
    go_wp2_with fail
    refine (H1.out _).mono ?_
    rintro e w1 ⟨rfl, rfl⟩
    cases f1 with
    | false =>
      go_wp2_with fail
      go_ret
      exact ⟨congrArg (fun z => Ending.returned (Value.bool z)) (by rw [Hr.out]; rfl), rfl⟩
    | true =>
      go_wp2_with fail
      go_ret
      exact ⟨congrArg (fun z => Ending.returned (Value.bool z)) (by rw [Hr.out, Bool.true_and]), rfl⟩
  by_cases h23 : k = 23
  · subst h23
    have Hr := hid (show rtV 23 a b = (frB a 0 48 && frB b 0 96) from rfl)
    have H1 := hid (fun X => r16_from a 0 48 X)
    have H2 := hid (fun X => r16_from b 0 96 X)
    generalize frB a 0 48 = f1 at *
    generalize frB b 0 96 = f2 at *
    generalize rtV 23 a b = q at *
    go_enter Tryz.func64, Tryz.ntmps64
    go_wp2_with fail
    refine (H1.out _).mono ?_
    rintro e w1 ⟨rfl, rfl⟩
    cases f1 with
    | false =>
      go_wp2_with fail
      go_ret
      exact ⟨congrArg (fun z => Ending.returned (Value.bool z)) (by rw [Hr.out]; rfl), rfl⟩
    | true =>
      go_wp2_with fail
      refine (H2.out _).mono ?_
      rintro e w2 ⟨rfl, rfl⟩
      go_wp2_with fail
      go_ret
      exact ⟨congrArg (fun z => Ending.returned (Value.bool z)) (by rw [Hr.out]; rfl), rfl⟩
  by_cases h24 : k = 24
  · subst h24
    have Hr := hid (show rtV 24 a b = (frB a 1 96 && frB b 0 96) from rfl)
    have H1 := hid (fun X => r16_from a 1 96 X)
    have H2 := hid (fun X => r16_from b 0 96 X)
    generalize frB a 1 96 = f1 at *
    generalize frB b 0 96 = f2 at *
    generalize rtV 24 a b = q at *
    go_enter Tryz.func64, Tryz.ntmps64
    go_wp2_with fail
    refine (H1.out _).mono ?_
    rintro e w1 ⟨rfl, rfl⟩
    cases f1 with
    | false =>
      go_wp2_with fail
      go_ret
      exact ⟨congrArg (fun z => Ending.returned (Value.bool z)) (by rw [Hr.out]; rfl), rfl⟩
    | true =>
      go_wp2_with fail
      refine (H2.out _).mono ?_
      rintro e w2 ⟨rfl, rfl⟩
      go_wp2_with fail
      go_ret
      exact ⟨congrArg (fun z => Ending.returned (Value.bool z)) (by rw [Hr.out]; rfl), rfl⟩
  have Hr := hid (show rtV k a b = (kn15 k && ((a == 0) && (b == 0))) by
    unfold rtV
    rw [if_neg h21, if_neg (by omega), if_neg h23, if_neg h24, deq, deq])
  have H1 := hid (fun X => r16_kn15 k X)
  have q1 : (k == 21) = false := by rw [beq_eq_false_iff_ne]; exact h21
  have q2 : (k == 22) = false := by rw [beq_eq_false_iff_ne]; exact h22
  have q3 : (k == 13) = false := by rw [beq_eq_false_iff_ne]; exact h13
  have q4 : (k == 23) = false := by rw [beq_eq_false_iff_ne]; exact h23
  have q5 : (k == 24) = false := by rw [beq_eq_false_iff_ne]; exact h24
  clear h21 h22 h13 h23 h24
  generalize rtV k a b = q at *
  generalize kn15 k = f1 at *
  go_enter Tryz.func64, Tryz.ntmps64
  go_wp2_with fail
  refine (H1.out _).mono ?_
  rintro e w1 ⟨rfl, rfl⟩
  cases f1 with
  | false =>
    go_wp2_with fail
    go_ret
    exact ⟨congrArg (fun z => Ending.returned (Value.bool z)) (by rw [Hr.out]; rfl), rfl⟩
  | true =>
    cases h1 : (a == 0) with
    | false =>
      rw [h1] at Hr
      go_wp2_with fail
      go_ret
      exact ⟨congrArg (fun z => Ending.returned (Value.bool z)) (by rw [Hr.out]; rfl), rfl⟩
    | true =>
      rw [h1] at Hr
      go_wp2_with fail
      go_ret
      exact ⟨congrArg (fun z => Ending.returned (Value.bool z)) (by rw [Hr.out]; rfl), rfl⟩
end Go.Proofs.YtgmgccepmalahaaGreat
