/- Mathematics of layer 9 (when): grids, times, their moments, what two share. Nothing of a program is spoken of here. Mathematics of layer 9 (when): the moments of a day, one behind the other. Nothing of a program is spoken of here. Contracts of the document's own answer for layer 9 (when): what computes without loops. Contracts of the document's own answer for layer 9 (when): numbers of moments. Contracts of the document's own answer for layer 9 (when): Count, SameDay, slots, Meet, Gap. Contracts of the document's own answer for layer 9 (when): Meet, Gap. Contracts of the document's own answer for layer 9 (when): Right, Moments. Contracts of the document's own answer for layer 9 (when): Moments. -/
import Derived.Test.YtgmgccepmalahaaGreatMem
namespace Go.Proofs.YtgmgccepmalahaaGreat.Whn

structure Gr where
  w : Int
  d : Int
  s : Int
structure Wh where
  w : Nat
  d : Nat
  s : Int
  l : Int

def rgrid (g : Gr) : Bool := decide (1 ≤ g.w ∧ g.w ≤ 20 ∧ 1 ≤ g.d ∧ g.d ≤ 7 ∧ 1 ≤ g.s ∧ g.s ≤ 96)
def tame (x : Wh) : Bool := decide (0 ≤ x.s ∧ x.s ≤ 96 ∧ 1 ≤ x.l ∧ x.l ≤ 96)
def right (g : Gr) (x : Wh) : Bool := rgrid g && decide (x.w ≠ 0 ∧ x.d ≠ 0 ∧ 0 ≤ x.s ∧ 1 ≤ x.l ∧ x.s + x.l ≤ g.s ∧ x.w < 2 ^ g.w.toNat ∧ x.d < 2 ^ g.d.toNat)
def on (x : Wh) (week day slot : Int) : Bool :=
  tame x && (decide (0 ≤ week ∧ week ≤ 31 ∧ 0 ≤ day ∧ day ≤ 7) && (x.w.testBit week.toNat && (x.d.testBit day.toNat && decide (x.s ≤ slot ∧ slot < x.s + x.l))))
def inG (g : Gr) (a b c : Int) : Bool := rgrid g && decide (0 ≤ a ∧ a < g.w ∧ 0 ≤ b ∧ b < g.d ∧ 0 ≤ c ∧ c < g.s)
def num (g : Gr) (a b c : Int) : Int := (a * g.d + b) * g.s + c
def moment (g : Gr) (a b c : Int) : Int := if inG g a b c then num g a b c else -1
def all (g : Gr) : Int := if rgrid g then g.w * g.d * g.s else 0
def isM (g : Gr) (m : Int) : Bool := decide (0 ≤ m ∧ m < all g)
def wk (g : Gr) (m : Int) : Int := m / g.s / g.d
def dy (g : Gr) (m : Int) : Int := m / g.s % g.d
def sl (g : Gr) (m : Int) : Int := m % g.s
def onM (g : Gr) (x : Wh) (m : Int) : Bool := on x (wk g m) (dy g m) (sl g m)
/-- the moments below k -/
def upto (g : Gr) (x : Wh) (k : Nat) : List Int := ((List.range k).map fun (m : Nat) => (m : Int)).filter (onM g x)
def moments (g : Gr) (x : Wh) : List Int := if right g x then upto g x (all g).toNat else []
/-- how many of the first k bits are 1 -/
def ones (n : Nat) : Nat → Nat
  | 0 => 0
  | k + 1 => ones n k + (if n.testBit k then 1 else 0)
def count (x : Wh) : Int := if tame x then ((ones x.w 32 : Nat) : Int) * ((ones x.d 32 : Nat) : Int) * x.l else 0
def sameDay (a b : Wh) : Bool := tame a && (tame b && decide (a.w &&& b.w ≠ 0 ∧ a.d &&& b.d ≠ 0))
def slots (a b : Wh) : Bool := decide (max a.s b.s < min (a.s + a.l) (b.s + b.l))
def meet (a b : Wh) : Bool := sameDay a b && slots a b
def gap (a b : Wh) : Int := if sameDay a b && !slots a b then (if a.s < b.s then b.s - a.s - a.l else a.s - b.s - b.l) else 0
def gapS (a b : Wh) : Bool := sameDay a b && !slots a b
def zero : Wh := ⟨0, 0, 0, 0⟩
def share (a b : Wh) : Wh := ⟨a.w &&& b.w, a.d &&& b.d, max a.s b.s, min (a.s + a.l) (b.s + b.l) - max a.s b.s⟩
def both (a b : Wh) : Wh := if meet a b then share a b else zero
def covers (a b : Wh) : Bool := meet a b && decide ((share a b).w = b.w ∧ (share a b).d = b.d ∧ (share a b).s = b.s ∧ (share a b).l = b.l)

theorem wh_ext {x y : Wh} (h1 : x.w = y.w) (h2 : x.d = y.d) (h3 : x.s = y.s) (h4 : x.l = y.l) : x = y := by
  cases x; cases y
  simp only at h1 h2 h3 h4
  subst h1; subst h2; subst h3; subst h4
  rfl

/-! ### numbers of moments -/
theorem rgrid_iff (g : Gr) : rgrid g = true ↔ 1 ≤ g.w ∧ g.w ≤ 20 ∧ 1 ≤ g.d ∧ g.d ≤ 7 ∧ 1 ≤ g.s ∧ g.s ≤ 96 := by unfold rgrid; rw [decide_eq_true_iff]
theorem tame_iff (x : Wh) : tame x = true ↔ 0 ≤ x.s ∧ x.s ≤ 96 ∧ 1 ≤ x.l ∧ x.l ≤ 96 := by unfold tame; rw [decide_eq_true_iff]
theorem right_iff (g : Gr) (x : Wh) : right g x = true ↔ rgrid g = true ∧ x.w ≠ 0 ∧ x.d ≠ 0 ∧ 0 ≤ x.s ∧ 1 ≤ x.l ∧ x.s + x.l ≤ g.s ∧ x.w < 2 ^ g.w.toNat ∧ x.d < 2 ^ g.d.toNat := by
  unfold right
  rw [Bool.and_eq_true, decide_eq_true_iff]
theorem right_grid {g : Gr} {x : Wh} (h : right g x = true) : rgrid g = true := ((right_iff g x).1 h).1
theorem right_tame {g : Gr} {x : Wh} (h : right g x = true) : tame x = true := by
  obtain ⟨hg, _, _, h1, h2, h3, _⟩ := (right_iff g x).1 h
  have := (rgrid_iff g).1 hg
  rw [tame_iff]
  omega
theorem all_le (g : Gr) : 0 ≤ all g ∧ all g ≤ 13440 := by
  unfold all
  split
  · rename_i h
    obtain ⟨h1, h2, h3, h4, h5, h6⟩ := (rgrid_iff g).1 h
    have a1 : 1 * 1 ≤ g.w * g.d := Int.mul_le_mul h1 h3 (by omega) (by omega)
    have a2 : g.w * g.d ≤ 20 * 7 := Int.mul_le_mul h2 h4 (by omega) (by omega)
    have a3 : g.w * g.d * g.s ≤ 140 * 96 := Int.mul_le_mul (by omega) h6 (by omega) (by omega)
    have a4 : 0 ≤ g.w * g.d * g.s := Int.mul_nonneg (by omega) (by omega)
    omega
  · omega
theorem num_lt {g : Gr} {a b c : Int} (h : inG g a b c = true) : 0 ≤ num g a b c ∧ num g a b c < all g := by
  unfold inG at h
  rw [Bool.and_eq_true, decide_eq_true_iff] at h
  obtain ⟨hg, h1, h2, h3, h4, h5, h6⟩ := h
  obtain ⟨g1, g2, g3, g4, g5, g6⟩ := (rgrid_iff g).1 hg
  unfold all num
  rw [if_pos hg]
  have a1 : 0 ≤ a * g.d := Int.mul_nonneg h1 (by omega)
  have a2 : (a + 1) * g.d ≤ g.w * g.d := Int.mul_le_mul_of_nonneg_right (by omega) (by omega)
  rw [Int.add_mul, Int.one_mul] at a2
  have a3 : 0 ≤ (a * g.d + b) * g.s := Int.mul_nonneg (by omega) (by omega)
  have a4 : (a * g.d + b + 1) * g.s ≤ g.w * g.d * g.s := Int.mul_le_mul_of_nonneg_right (by omega) (by omega)
  rw [Int.add_mul (a * g.d + b), Int.one_mul] at a4
  omega
theorem num_parts {g : Gr} {a b c : Int} (h : inG g a b c = true) : wk g (num g a b c) = a ∧ dy g (num g a b c) = b ∧ sl g (num g a b c) = c := by
  unfold inG at h
  rw [Bool.and_eq_true, decide_eq_true_iff] at h
  obtain ⟨hg, h1, h2, h3, h4, h5, h6⟩ := h
  obtain ⟨g1, g2, g3, g4, g5, g6⟩ := (rgrid_iff g).1 hg
  have e1 : num g a b c / g.s = a * g.d + b := by
    unfold num
    rw [Int.add_comm, Int.add_mul_ediv_right _ _ (by omega), Int.ediv_eq_zero_of_lt h5 h6, Int.zero_add]
  unfold wk dy sl
  rw [e1]
  refine ⟨?_, ?_, ?_⟩
  · rw [Int.add_comm, Int.add_mul_ediv_right _ _ (by omega), Int.ediv_eq_zero_of_lt h3 h4, Int.zero_add]
  · rw [Int.add_comm, Int.add_mul_emod_self_right]
    exact Int.emod_eq_of_lt h3 h4
  · unfold num
    rw [Int.add_comm, Int.add_mul_emod_self_right]
    exact Int.emod_eq_of_lt h5 h6
theorem num_back {g : Gr} {m : Int} (h : isM g m = true) : inG g (wk g m) (dy g m) (sl g m) = true ∧ num g (wk g m) (dy g m) (sl g m) = m := by
  unfold isM at h
  rw [decide_eq_true_iff] at h
  obtain ⟨h1, h2⟩ := h
  have hg : rgrid g = true := by
    unfold all at h2
    split at h2
    · assumption
    · omega
  obtain ⟨g1, g2, g3, g4, g5, g6⟩ := (rgrid_iff g).1 hg
  unfold all at h2
  rw [if_pos hg] at h2
  have e2 : num g (wk g m) (dy g m) (sl g m) = m := by
    unfold num wk dy sl
    have q1 := Int.mul_ediv_add_emod (m / g.s) g.d
    have q2 := Int.mul_ediv_add_emod m g.s
    rw [Int.mul_comm (m / g.s / g.d) g.d, q1, Int.mul_comm (m / g.s) g.s]
    exact q2
  refine ⟨?_, e2⟩
  unfold inG
  rw [Bool.and_eq_true, decide_eq_true_iff]
  have b1 : 0 ≤ m / g.s := Int.ediv_nonneg h1 (by omega)
  have b2 : m / g.s < g.w * g.d := Int.ediv_lt_of_lt_mul (by omega) h2
  refine ⟨hg, Int.ediv_nonneg b1 (by omega), Int.ediv_lt_of_lt_mul (by omega) b2, Int.emod_nonneg _ (by omega), Int.emod_lt_of_pos _ (by omega), Int.emod_nonneg _ (by omega), Int.emod_lt_of_pos _ (by omega)⟩

/-! ### what is on -/
theorem on_iff (x : Wh) (a b c : Int) : on x a b c = true ↔ tame x = true ∧ (0 ≤ a ∧ a ≤ 31 ∧ 0 ≤ b ∧ b ≤ 7) ∧ x.w.testBit a.toNat = true ∧ x.d.testBit b.toNat = true ∧ x.s ≤ c ∧ c < x.s + x.l := by
  unfold on
  rw [Bool.and_eq_true, Bool.and_eq_true, Bool.and_eq_true, Bool.and_eq_true, decide_eq_true_iff, decide_eq_true_iff]
theorem upto_succ (g : Gr) (x : Wh) (k : Nat) : upto g x (k + 1) = upto g x k ++ (if onM g x k then [(k : Int)] else []) := by
  unfold upto
  rw [List.range_succ, List.map_append, List.filter_append]
  congr 1
  show List.filter (onM g x) [(k : Int)] = _
  rw [List.filter_cons, List.filter_nil]
theorem upto_len (g : Gr) (x : Wh) (k : Nat) : (upto g x k).length ≤ k := by
  unfold upto
  refine Nat.le_trans (List.length_filter_le _ _) ?_
  rw [List.length_map, List.length_range]
  exact Nat.le_refl _
theorem mem_upto (g : Gr) (x : Wh) (k : Nat) (m : Int) : m ∈ upto g x k ↔ 0 ≤ m ∧ m < k ∧ onM g x m = true := by
  unfold upto
  rw [List.mem_filter, List.mem_map]
  constructor
  · rintro ⟨⟨j, hj, rfl⟩, h⟩
    have := List.mem_range.1 hj
    exact ⟨by omega, by omega, h⟩
  · rintro ⟨h1, h2, h3⟩
    exact ⟨⟨m.toNat, List.mem_range.2 (by omega), by omega⟩, h3⟩
theorem mem_moments {g : Gr} {x : Wh} (h : right g x = true) (m : Int) : m ∈ moments g x ↔ isM g m = true ∧ onM g x m = true := by
  have ha := all_le g
  unfold moments isM
  rw [if_pos h, mem_upto, decide_eq_true_iff]
  constructor
  · rintro ⟨h1, h2, h3⟩
    exact ⟨⟨h1, by omega⟩, h3⟩
  · rintro ⟨⟨h1, h2⟩, h3⟩
    exact ⟨h1, by omega, h3⟩
theorem moments_len (g : Gr) (x : Wh) : (moments g x).length ≤ 13440 := by
  have ha := all_le g
  unfold moments
  split
  · exact Nat.le_trans (upto_len g x _) (by omega)
  · exact Nat.zero_le _

/-! ### rows that rise -/
def Ris : List Int → Prop := List.Pairwise (· < ·)
theorem ris_upto (g : Gr) (x : Wh) (k : Nat) : Ris (upto g x k) := by
  unfold Ris upto
  refine List.Pairwise.filter _ ?_
  rw [List.pairwise_map]
  exact List.pairwise_lt_range.imp (fun h => by omega)
theorem ris_moments (g : Gr) (x : Wh) : Ris (moments g x) := by
  unfold moments
  split
  · exact ris_upto g x _
  · exact List.Pairwise.nil
/-- rows that rise and have the same numbers are the same -/
theorem ris_ext {a b : List Int} (ha : Ris a) (hb : Ris b) (h : ∀ m, m ∈ a ↔ m ∈ b) : a = b := by
  induction a generalizing b with
  | nil =>
    cases b with
    | nil => rfl
    | cons y b => exact absurd ((h y).2 (List.mem_cons_self ..)) (List.not_mem_nil)
  | cons x a ih =>
    cases b with
    | nil => exact absurd ((h x).1 (List.mem_cons_self ..)) (List.not_mem_nil)
    | cons y b =>
      obtain ⟨ha1, ha2⟩ := List.pairwise_cons.1 ha
      obtain ⟨hb1, hb2⟩ := List.pairwise_cons.1 hb
      have hxy : x = y := by
        rcases List.mem_cons.1 ((h x).1 (List.mem_cons_self ..)) with e | e
        · exact e
        · rcases List.mem_cons.1 ((h y).2 (List.mem_cons_self ..)) with e' | e'
          · exact e'.symm
          · have := ha1 y e'
            have := hb1 x e
            omega
      subst hxy
      congr 1
      refine ih ha2 hb2 (fun m => ⟨fun hm => ?_, fun hm => ?_⟩)
      · rcases List.mem_cons.1 ((h m).1 (List.mem_cons_of_mem _ hm)) with e | e
        · have := ha1 m hm
          omega
        · exact e
      · rcases List.mem_cons.1 ((h m).2 (List.mem_cons_of_mem _ hm)) with e | e
        · have := hb1 m hm
          omega
        · exact e

/-! ### what two share -/
theorem bit_of_ne {n : Nat} (h : n ≠ 0) : ∃ i, n.testBit i = true := by
  apply Classical.byContradiction
  intro hn
  exact h (Nat.eq_of_testBit_eq fun i => by
    rw [Nat.zero_testBit]
    cases hb : n.testBit i with
    | false => rfl
    | true => exact absurd ⟨i, hb⟩ hn)
theorem bit_lt {n k i : Nat} (hn : n < 2 ^ k) (h : n.testBit i = true) : i < k := by
  rcases Nat.lt_or_ge i k with h1 | h1
  · exact h1
  · have : n < 2 ^ i := Nat.lt_of_lt_of_le hn (Nat.pow_le_pow_right (by decide) h1)
    rw [Nat.testBit_lt_two_pow this] at h
    cases h
theorem slots_iff (a b : Wh) : slots a b = true ↔ max a.s b.s < min (a.s + a.l) (b.s + b.l) := by unfold slots; rw [decide_eq_true_iff]
theorem meet_iff (a b : Wh) : meet a b = true ↔ tame a = true ∧ tame b = true ∧ a.w &&& b.w ≠ 0 ∧ a.d &&& b.d ≠ 0 ∧ max a.s b.s < min (a.s + a.l) (b.s + b.l) := by
  unfold meet sameDay slots
  rw [Bool.and_eq_true, Bool.and_eq_true, Bool.and_eq_true, decide_eq_true_iff, decide_eq_true_iff]
  constructor
  · rintro ⟨⟨h1, h2, h3, h4⟩, h5⟩
    exact ⟨h1, h2, h3, h4, h5⟩
  · rintro ⟨h1, h2, h3, h4, h5⟩
    exact ⟨⟨h1, h2, h3, h4⟩, h5⟩
theorem meet_comm (a b : Wh) : meet a b = meet b a := by
  rw [Bool.eq_iff_iff, meet_iff, meet_iff, Nat.and_comm b.w, Nat.and_comm b.d]
  constructor
  · rintro ⟨h1, h2, h3, h4, h5⟩
    exact ⟨h2, h1, h3, h4, by omega⟩
  · rintro ⟨h1, h2, h3, h4, h5⟩
    exact ⟨h2, h1, h3, h4, by omega⟩
theorem sameDay_comm (a b : Wh) : sameDay a b = sameDay b a := by
  unfold sameDay
  rw [Nat.and_comm b.w, Nat.and_comm b.d]
  cases tame a <;> cases tame b <;> simp
theorem slots_comm (a b : Wh) : slots a b = slots b a := by
  rw [Bool.eq_iff_iff, slots_iff, slots_iff]
  omega
theorem gapS_comm (a b : Wh) : gapS a b = gapS b a := by unfold gapS; rw [sameDay_comm a b, slots_comm a b]
theorem gap_comm (a b : Wh) : gap a b = gap b a := by
  unfold gap
  rw [sameDay_comm b a, slots_comm b a]
  split
  · rename_i h
    rw [Bool.and_eq_true] at h
    obtain ⟨h1, h2⟩ := h
    have ht : tame a = true ∧ tame b = true := by
      unfold sameDay at h1
      rw [Bool.and_eq_true, Bool.and_eq_true] at h1
      exact ⟨h1.1, h1.2.1⟩
    have hs : ¬ slots a b = true := by intro e; rw [e] at h2; cases h2
    rw [slots_iff] at hs
    have t1 := (tame_iff a).1 ht.1
    have t2 := (tame_iff b).1 ht.2
    split <;> split <;> omega
  · rfl
theorem gap_ge (a b : Wh) : 0 ≤ gap a b := by
  unfold gap
  split
  · rename_i h
    rw [Bool.and_eq_true] at h
    obtain ⟨h1, h2⟩ := h
    have ht : tame a = true ∧ tame b = true := by
      unfold sameDay at h1
      rw [Bool.and_eq_true, Bool.and_eq_true] at h1
      exact ⟨h1.1, h1.2.1⟩
    have hs : ¬ slots a b = true := by intro e; rw [e] at h2; cases h2
    rw [slots_iff] at hs
    have t1 := (tame_iff a).1 ht.1
    have t2 := (tame_iff b).1 ht.2
    split <;> omega
  · exact Int.le_refl _
/-- of times that meet what they share is where both are -/
theorem on_share {a b : Wh} (h : meet a b = true) (i j c : Int) : on (share a b) i j c = (on a i j c && on b i j c) := by
  obtain ⟨h1, h2, h3, h4, h5⟩ := (meet_iff a b).1 h
  have t1 := (tame_iff a).1 h1
  have t2 := (tame_iff b).1 h2
  rw [Bool.eq_iff_iff, Bool.and_eq_true, on_iff, on_iff, on_iff, tame_iff]
  unfold share
  simp only [Nat.testBit_and, Bool.and_eq_true]
  constructor
  · rintro ⟨q1, q2, ⟨q3, q4⟩, ⟨q5, q6⟩, q7⟩
    exact ⟨⟨h1, q2, q3, q5, by omega⟩, ⟨h2, q2, q4, q6, by omega⟩⟩
  · rintro ⟨⟨_, q2, q3, q4, q5⟩, ⟨_, _, q6, q7, q8⟩⟩
    exact ⟨by omega, q2, ⟨q3, q6⟩, ⟨q4, q7⟩, by omega⟩
theorem on_meet {a b : Wh} {i j c : Int} (ha : on a i j c = true) (hb : on b i j c = true) : meet a b = true := by
  obtain ⟨h1, _, h3, h4, h5⟩ := (on_iff _ _ _ _).1 ha
  obtain ⟨k1, _, k3, k4, k5⟩ := (on_iff _ _ _ _).1 hb
  rw [meet_iff]
  refine ⟨h1, k1, fun e => ?_, fun e => ?_, by omega⟩
  · have : (a.w &&& b.w).testBit i.toNat = true := by rw [Nat.testBit_and, h3, k3]; rfl
    rw [e, Nat.zero_testBit] at this
    cases this
  · have : (a.d &&& b.d).testBit j.toNat = true := by rw [Nat.testBit_and, h4, k4]; rfl
    rw [e, Nat.zero_testBit] at this
    cases this
theorem right_share {g : Gr} {a b : Wh} (ha : right g a = true) (hb : right g b = true) (h : meet a b = true) : right g (share a b) = true := by
  obtain ⟨a1, a2, a3, a4, a5, a6, a7, a8⟩ := (right_iff g a).1 ha
  obtain ⟨b1, b2, b3, b4, b5, b6, b7, b8⟩ := (right_iff g b).1 hb
  obtain ⟨h1, h2, h3, h4, h5⟩ := (meet_iff a b).1 h
  rw [right_iff]
  unfold share
  refine ⟨a1, h3, h4, ?_, ?_, ?_, Nat.lt_of_le_of_lt Nat.and_le_left a7, Nat.lt_of_le_of_lt Nat.and_le_left a8⟩
  · show 0 ≤ max a.s b.s
    omega
  · show 1 ≤ min (a.s + a.l) (b.s + b.l) - max a.s b.s
    omega
  · show max a.s b.s + (min (a.s + a.l) (b.s + b.l) - max a.s b.s) ≤ g.s
    omega
/-- a week, a day and a slot on which a time is has a number, at which it is -/
theorem onM_num {g : Gr} {x : Wh} (h : right g x = true) {i j : Nat} {c : Int} (hi : x.w.testBit i = true) (hj : x.d.testBit j = true) (h1 : x.s ≤ c) (h2 : c < x.s + x.l) : inG g i j c = true ∧ isM g (num g i j c) = true ∧ onM g x (num g i j c) = true := by
  obtain ⟨a1, a2, a3, a4, a5, a6, a7, a8⟩ := (right_iff g x).1 h
  obtain ⟨g1, g2, g3, g4, g5, g6⟩ := (rgrid_iff g).1 a1
  have i1 := bit_lt a7 hi
  have i2 := bit_lt a8 hj
  have hin : inG g i j c = true := by
    unfold inG
    rw [Bool.and_eq_true, decide_eq_true_iff]
    exact ⟨a1, by omega⟩
  obtain ⟨n1, n2⟩ := num_lt hin
  obtain ⟨p1, p2, p3⟩ := num_parts hin
  refine ⟨hin, by unfold isM; rw [decide_eq_true_iff]; exact ⟨n1, n2⟩, ?_⟩
  unfold onM
  rw [p1, p2, p3, on_iff]
  exact ⟨right_tame h, by omega, by simpa using hi, by simpa using hj, h1, h2⟩
/-- the row of the shared moments -/
def shared (x y : List Int) : List Int := x.filter fun m => decide (m ∈ y)
theorem ris_shared {x : List Int} (h : Ris x) (y : List Int) : Ris (shared x y) := List.Pairwise.filter _ h
theorem mem_shared (x y : List Int) (m : Int) : m ∈ shared x y ↔ m ∈ x ∧ m ∈ y := by
  unfold shared
  rw [List.mem_filter, decide_eq_true_iff]
theorem shared_share {g : Gr} {a b : Wh} (ha : right g a = true) (hb : right g b = true) (h : meet a b = true) : moments g (share a b) = shared (moments g a) (moments g b) := by
  refine ris_ext (ris_moments _ _) (ris_shared (ris_moments _ _) _) fun m => ?_
  rw [mem_shared, mem_moments (right_share ha hb h), mem_moments ha, mem_moments hb]
  unfold onM
  rw [on_share h, Bool.and_eq_true]
  constructor
  · rintro ⟨h1, h2, h3⟩
    exact ⟨⟨h1, h2⟩, h1, h3⟩
  · rintro ⟨⟨h1, h2⟩, _, h3⟩
    exact ⟨h1, h2, h3⟩
theorem moments_some {g : Gr} {x : Wh} (h : right g x = true) : ∃ m, m ∈ moments g x := by
  obtain ⟨a1, a2, a3, a4, a5, a6, a7, a8⟩ := (right_iff g x).1 h
  obtain ⟨i, hi⟩ := bit_of_ne a2
  obtain ⟨j, hj⟩ := bit_of_ne a3
  obtain ⟨_, q1, q2⟩ := onM_num h hi hj (Int.le_refl _) (by omega)
  exact ⟨_, (mem_moments h _).2 ⟨q1, q2⟩⟩
theorem shared_meet {g : Gr} {a b : Wh} (ha : right g a = true) (hb : right g b = true) : meet a b = decide (0 < (shared (moments g a) (moments g b)).length) := by
  rw [Bool.eq_iff_iff, decide_eq_true_iff]
  constructor
  · intro h
    rw [← shared_share ha hb h]
    obtain ⟨m, hm⟩ := moments_some (right_share ha hb h)
    exact List.length_pos_of_mem hm
  · intro h
    obtain ⟨m, hm⟩ := List.exists_mem_of_length_pos h
    rw [mem_shared, mem_moments ha, mem_moments hb] at hm
    exact on_meet hm.1.2 hm.2.2
theorem share_cover {g : Gr} {a b : Wh} (ha : right g a = true) (hb : right g b = true) : covers a b = decide ((shared (moments g a) (moments g b)).length = (moments g b).length) := by
  obtain ⟨b1, b2, b3, b4, b5, b6, b7, b8⟩ := (right_iff g b).1 hb
  rw [Bool.eq_iff_iff, decide_eq_true_iff]
  unfold covers
  rw [Bool.and_eq_true, decide_eq_true_iff]
  constructor
  · rintro ⟨h, e1, e2, e3, e4⟩
    rw [← shared_share ha hb h]
    rw [wh_ext e1 e2 e3 e4]
  · intro h
    have hsub : shared (moments g a) (moments g b) = moments g b := by
      have e : shared (moments g a) (moments g b) = shared (moments g b) (moments g a) :=
        ris_ext (ris_shared (ris_moments _ _) _) (ris_shared (ris_moments _ _) _) fun m => by rw [mem_shared, mem_shared]; exact And.comm
      rw [e] at h ⊢
      exact List.Sublist.eq_of_length (List.filter_sublist) h
    have hall : ∀ m, m ∈ moments g b → onM g a m = true := fun m hm => by
      rw [← hsub, mem_shared, mem_moments ha] at hm
      exact hm.1.2
    obtain ⟨i0, hi0⟩ := bit_of_ne b2
    obtain ⟨j0, hj0⟩ := bit_of_ne b3
    have key : ∀ (i j : Nat) (c : Int), b.w.testBit i = true → b.d.testBit j = true → b.s ≤ c → c < b.s + b.l → a.w.testBit i = true ∧ a.d.testBit j = true ∧ a.s ≤ c ∧ c < a.s + a.l := by
      intro i j c hi hj h1 h2
      obtain ⟨q0, q1, q2⟩ := onM_num hb hi hj h1 h2
      have := hall _ ((mem_moments hb _).2 ⟨q1, q2⟩)
      unfold onM at this
      obtain ⟨p1, p2, p3⟩ := num_parts q0
      rw [p1, p2, p3, on_iff] at this
      obtain ⟨_, _, r1, r2, r3, r4⟩ := this
      exact ⟨by simpa using r1, by simpa using r2, r3, r4⟩
    obtain ⟨_, _, s1, _⟩ := key i0 j0 b.s hi0 hj0 (Int.le_refl _) (by omega)
    obtain ⟨_, _, _, s2⟩ := key i0 j0 (b.s + b.l - 1) hi0 hj0 (by omega) (by omega)
    have ew : a.w &&& b.w = b.w := Nat.eq_of_testBit_eq fun i => by
      rw [Nat.testBit_and]
      cases hb' : b.w.testBit i with
      | false => rw [Bool.and_false]
      | true => rw [(key i j0 b.s hb' hj0 (Int.le_refl _) (by omega)).1]; rfl
    have ed : a.d &&& b.d = b.d := Nat.eq_of_testBit_eq fun j => by
      rw [Nat.testBit_and]
      cases hb' : b.d.testBit j with
      | false => rw [Bool.and_false]
      | true => rw [(key i0 j b.s hi0 hb' (Int.le_refl _) (by omega)).2.1]; rfl
    refine ⟨(meet_iff a b).2 ⟨right_tame ha, right_tame hb, by rw [ew]; exact b2, by rw [ed]; exact b3, by omega⟩, ew, ed, ?_, ?_⟩
    · show max a.s b.s = b.s
      omega
    · show min (a.s + a.l) (b.s + b.l) - max a.s b.s = b.l
      omega
/-- is it so of one of the first numbers? -/
def anyb (f : Nat → Bool) : Nat → Bool
  | 0 => false
  | k + 1 => anyb f k || f k
theorem anyb_iff (f : Nat → Bool) (k : Nat) : anyb f k = true ↔ ∃ j, j < k ∧ f j = true := by
  induction k with
  | zero => exact ⟨fun h => (by cases h), fun ⟨j, h, _⟩ => absurd h (Nat.not_lt_zero j)⟩
  | succ k ih =>
    rw [anyb, Bool.or_eq_true, ih]
    constructor
    · rintro (⟨j, h1, h2⟩ | h)
      · exact ⟨j, by omega, h2⟩
      · exact ⟨k, by omega, h⟩
    · rintro ⟨j, h1, h2⟩
      rcases Nat.lt_or_ge j k with h | h
      · exact .inl ⟨j, h, h2⟩
      · obtain rfl : j = k := by omega
        exact .inr h2
def wkB (a b : Wh) (j : Nat) : Bool := a.w.testBit j && b.w.testBit j
def dyB (a b : Wh) (j : Nat) : Bool := decide (j < 8) && (a.d.testBit j && b.d.testBit j)
theorem and_ne {m n k : Nat} (h : m < 2 ^ k) : (m &&& n ≠ 0) ↔ ∃ j, j < k ∧ (m.testBit j && n.testBit j) = true := by
  constructor
  · intro h0
    obtain ⟨i, hi⟩ := bit_of_ne h0
    rw [Nat.testBit_and] at hi
    have h1 := hi
    rw [Bool.and_eq_true] at h1
    exact ⟨i, bit_lt h h1.1, hi⟩
  · rintro ⟨j, _, hj⟩ e
    have : (m &&& n).testBit j = true := by rw [Nat.testBit_and, hj]
    rw [e, Nat.zero_testBit] at this
    cases this
theorem wk_all (a b : Wh) (h : a.w < 4294967296) : anyb (wkB a b) 32 = decide (a.w &&& b.w ≠ 0) := by
  rw [Bool.eq_iff_iff, anyb_iff, decide_eq_true_iff, and_ne (k := 32) h]
  exact Iff.rfl
theorem dy_all (a b : Wh) (h : a.d < 256) : anyb (dyB a b) 32 = decide (a.d &&& b.d ≠ 0) := by
  rw [Bool.eq_iff_iff, anyb_iff, decide_eq_true_iff, and_ne (k := 8) h]
  unfold dyB
  constructor
  · rintro ⟨j, _, hj⟩
    rw [Bool.and_eq_true, decide_eq_true_iff] at hj
    exact ⟨j, hj.1, hj.2⟩
  · rintro ⟨j, h1, h2⟩
    exact ⟨j, by omega, by rw [h2, Bool.and_true, decide_eq_true_iff]; exact h1⟩
/-- the lower bits -/
theorem low_succ (t i : Nat) : t % 2 ^ (i + 1) = t % 2 ^ i + (if t.testBit i then 2 ^ i else 0) := by
  rw [Nat.pow_succ, Nat.mod_mul, Nat.testBit_eq_decide_div_mod_eq]
  rcases Nat.mod_two_eq_zero_or_one (t / 2 ^ i) with h | h
  · rw [h, Nat.mul_zero, if_neg (by simp)]
  · rw [h, Nat.mul_one, if_pos (by simp)]
/-- rules of bits -/
theorem and_lt (a b : Nat) (h : a < 4294967296) : a &&& b < 4294967296 := Nat.lt_of_le_of_lt Nat.and_le_left h
theorem ones_le (n k : Nat) : ones n k ≤ k := by
  induction k with
  | zero => exact Nat.le_refl _
  | succ k ih => rw [ones]; split <;> omega
end Go.Proofs.YtgmgccepmalahaaGreat.Whn
namespace Go.Proofs.YtgmgccepmalahaaGreat.Whn

theorem upto_skip {g : Gr} {x : Wh} {k : Nat} (k' : Nat) (h : k ≤ k') (hf : ∀ m : Nat, k ≤ m → m < k' → onM g x (m : Int) = false) : upto g x k' = upto g x k := by
  induction k' with
  | zero =>
    obtain rfl : k = 0 := by omega
    rfl
  | succ n ih =>
    by_cases e : k = n + 1
    · subst e; rfl
    · rw [upto_succ, hf n (by omega) (by omega), if_neg (by decide), List.append_nil]
      exact ih (by omega) (fun m h1 h2 => hf m h1 (by omega))
/-- the number of a day's first moment -/
def base (D S i j : Nat) : Nat := (i * D + j) * S
theorem base_day (D S i j : Nat) : base D S i (j + 1) = base D S i j + S := by
  unfold base
  rw [← Nat.add_assoc, Nat.succ_mul]
theorem base_week (D S i : Nat) : base D S (i + 1) 0 = base D S i D := by
  unfold base
  rw [Nat.succ_mul, Nat.add_zero]
theorem base_zero (D S : Nat) : base D S 0 0 = 0 := by unfold base; rw [Nat.zero_mul, Nat.zero_add, Nat.zero_mul]
theorem base_num {g : Gr} {D S : Nat} (hD : g.d = D) (hS : g.s = S) (i j : Nat) (c : Nat) : num g i j c = ((base D S i j + c : Nat) : Int) := by
  unfold num base
  rw [hD, hS]
  simp only [Int.natCast_add, Int.natCast_mul]
theorem onM_base {g : Gr} {x : Wh} (hr : right g x = true) {D S : Nat} (hD : g.d = D) (hS : g.s = S) {i j c : Nat} (hi : (i : Int) < g.w) (hj : j < D) (hc : c < S) :
    onM g x ((base D S i j + c : Nat) : Int) = (x.w.testBit i && (x.d.testBit j && decide (x.s ≤ c ∧ (c : Int) < x.s + x.l))) := by
  have hg := right_grid hr
  obtain ⟨g1, g2, g3, g4, g5, g6⟩ := (rgrid_iff g).1 hg
  have hin : inG g i j c = true := by
    unfold inG
    rw [Bool.and_eq_true, decide_eq_true_iff]
    exact ⟨hg, by omega⟩
  obtain ⟨p1, p2, p3⟩ := num_parts hin
  unfold onM
  rw [← base_num hD hS, p1, p2, p3]
  unfold on
  rw [right_tame hr, Bool.true_and, decide_eq_true (show 0 ≤ (i : Int) ∧ (i : Int) ≤ 31 ∧ 0 ≤ (j : Int) ∧ (j : Int) ≤ 7 by omega), Bool.true_and, Int.toNat_natCast, Int.toNat_natCast]
theorem slots_le {g : Gr} {x : Wh} (hr : right g x = true) {S s l : Nat} (hS : g.s = S) (hs : x.s = s) (hl : x.l = l) : s + l ≤ S := by
  obtain ⟨_, _, _, a4, a5, a6, _⟩ := (right_iff g x).1 hr
  omega
section
variable {g : Gr} {x : Wh} (hr : right g x = true) {D S s l : Nat} (hD : g.d = D) (hS : g.s = S) (hs : x.s = s) (hl : x.l = l) {i j : Nat} (hi : (i : Int) < g.w) (hj : j < D)
include hr hD hS hi hj
theorem day_off (hb : (x.w.testBit i && x.d.testBit j) = false) : upto g x (base D S i (j + 1)) = upto g x (base D S i j) := by
  rw [base_day]
  refine upto_skip _ (by omega) fun m h1 h2 => ?_
  obtain ⟨c, rfl⟩ : ∃ c, m = base D S i j + c := ⟨m - base D S i j, by omega⟩
  rw [onM_base hr hD hS hi hj (by omega), ← Bool.and_assoc, hb, Bool.false_and]
include hs hl
theorem day_pre : upto g x (base D S i j + s) = upto g x (base D S i j) := by
  have := slots_le hr hS hs hl
  refine upto_skip _ (by omega) fun m h1 h2 => ?_
  obtain ⟨c, rfl⟩ : ∃ c, m = base D S i j + c := ⟨m - base D S i j, by omega⟩
  rw [onM_base hr hD hS hi hj (by omega), decide_eq_false (by omega), Bool.and_false, Bool.and_false]
theorem day_in (hb : (x.w.testBit i && x.d.testBit j) = true) {c : Nat} (hc : c < l) : upto g x (base D S i j + s + (c + 1)) = upto g x (base D S i j + s + c) ++ [((base D S i j + s + c : Nat) : Int)] := by
  have := slots_le hr hS hs hl
  have h := onM_base hr hD hS hi hj (c := s + c) (by omega)
  rw [decide_eq_true (by omega), Bool.and_true, hb, ← Nat.add_assoc] at h
  rw [← Nat.add_assoc, upto_succ, h, if_pos rfl]
theorem day_post : upto g x (base D S i (j + 1)) = upto g x (base D S i j + s + l) := by
  have := slots_le hr hS hs hl
  rw [base_day]
  refine upto_skip _ (by omega) fun m h1 h2 => ?_
  obtain ⟨c, rfl⟩ : ∃ c, m = base D S i j + c := ⟨m - base D S i j, by omega⟩
  rw [onM_base hr hD hS hi hj (by omega), decide_eq_false (by omega), Bool.and_false, Bool.and_false]
end
end Go.Proofs.YtgmgccepmalahaaGreat.Whn
namespace Go.Proofs.YtgmgccepmalahaaGreat
open Go.RowKit
open Whn (Gr Wh)

abbrev gv (g : Gr) : Value := .agg #[.int .i64 g.w, .int .i64 g.d, .int .i64 g.s]
abbrev wv (x : Wh) : Value := .agg #[.int .u32 (x.w : Int), .int .u8 (x.d : Int), .int .i64 x.s, .int .i64 x.l]
def Gok (g : Gr) : Prop := I64 g.w ∧ I64 g.d ∧ I64 g.s
def Wok (x : Wh) : Prop := x.w < 4294967296 ∧ x.d < 256 ∧ I64 x.s ∧ I64 x.l

theorem did_bool {a b : Bool} {w w' : World} (h : (a = true) ↔ (b = true)) (hb : Below w.heap.size w w') : Did (.bool b) w (.returned (.bool a)) w' := Did.mk (congrArg Value.bool (Bool.eq_iff_iff.2 h)) hb

set_option maxRecDepth 4000 in
set_option maxHeartbeats 1000000 in
theorem r_RightGrid (g : Gr) (w : World) : Calls Tryz.prog 49 #[gv g] w (Did (.bool (Whn.rgrid g)) w) := by
  go_enter Tryz.func49, Tryz.ntmps49
  go_wp2_with fail
  all_goals
    go_ret
    refine did_bool ?_ (below_alloc w _)
    rw [Whn.rgrid_iff]
    simp only [Bool.false_eq_true, false_iff, decide_eq_true_eq]
    omega
theorem bit_eq (n i : Nat) (hn : n < 4294967296) : (((n : Int) / 2 ^ min i 32).tmod 2 == 1) = n.testBit i := by
  have h1 : ((n : Int) / 2 ^ min i 32).tmod 2 = ((n / 2 ^ min i 32 % 2 : Nat) : Int) := by
    rw [Int.tmod_eq_emod_of_nonneg (Int.ediv_nonneg (by omega) (Int.pow_nonneg (by decide)))]
    rw [Int.natCast_emod, Int.natCast_ediv, Int.natCast_pow]
    rfl
  rw [h1, Nat.testBit_eq_decide_div_mod_eq, Bool.eq_iff_iff, beq_iff_eq, decide_eq_true_iff]
  rcases Nat.lt_or_ge i 32 with h | h
  · rw [Nat.min_eq_left (by omega)]
    omega
  · rw [Nat.min_eq_right h]
    have e1 : n / 2 ^ 32 = 0 := Nat.div_eq_of_lt (by omega)
    have e2 : n / 2 ^ i = 0 := Nat.div_eq_of_lt (Nat.lt_of_lt_of_le (show n < 2 ^ 32 by omega) (Nat.pow_le_pow_right (by decide) h))
    rw [e1, e2]
    omega
theorem r_bit (n : Nat) (hn : n < 4294967296) (i : Nat) (hi : i < 64) (w : World) : Calls Tryz.prog 222 #[.int .u32 (n : Int), .int .i64 (i : Int)] w (fun e w' => e = .returned (.bool (n.testBit i)) ∧ w = w') := by
  have Hb := hid (bit_eq n i hn)
  go_enter Tryz.func222, Tryz.ntmps222
  go_wp2_with fail
  go_ret
  exact ⟨congrArg (fun b => Ending.returned (Value.bool b)) Hb.out, rfl⟩
theorem rq_bit {n : Nat} (hn : n < 4294967296) {i : Nat} (hi : i < 64) {x y : Int} (hx : x = n) (hy : y = i) (w : World) : Calls Tryz.prog 222 #[.int .u32 x, .int .i64 y] w (fun e w' => e = .returned (.bool (n.testBit i)) ∧ w = w') := by
  subst hx; subst hy; exact r_bit n hn i hi w
end Go.Proofs.YtgmgccepmalahaaGreat
namespace Go.Proofs.YtgmgccepmalahaaGreat
open Go.RowKit
open Whn (Gr Wh)

/-- the cells of a grid, of a time -/
abbrev gc (g : Gr) : List Value := [.int .i64 g.w, .int .i64 g.d, .int .i64 g.s]
abbrev wc (x : Wh) : List Value := [.int .u32 (x.w : Int), .int .u8 (x.d : Int), .int .i64 x.s, .int .i64 x.l]

theorem Mem.wh {w X : World} {l : Obs} (h : Mem w X l) {B : Nat} {x : Wh} (hm : (B, wc x, 55) ∈ l) : X.cell? ⟨B, 0, none⟩ = some (.int .u32 (x.w : Int)) ∧ X.cell? ⟨B, 1, none⟩ = some (.int .u8 (x.d : Int)) ∧ X.cell? ⟨B, 2, none⟩ = some (.int .i64 x.s) ∧ X.cell? ⟨B, 3, none⟩ = some (.int .i64 x.l) :=
  ⟨h.cell hm rfl, h.cell hm rfl, h.cell hm rfl, h.cell hm rfl⟩
theorem Mem.gr {w X : World} {l : Obs} (h : Mem w X l) {B : Nat} {g : Gr} (hm : (B, gc g, 23) ∈ l) : X.cell? ⟨B, 0, none⟩ = some (.int .i64 g.w) ∧ X.cell? ⟨B, 1, none⟩ = some (.int .i64 g.d) ∧ X.cell? ⟨B, 2, none⟩ = some (.int .i64 g.s) :=
  ⟨h.cell hm rfl, h.cell hm rfl, h.cell hm rfl⟩
theorem inG_no {g : Gr} {a b c : Int} (h : ¬ Whn.inG g a b c = true) (hg : Whn.rgrid g = true) : a < 0 ∨ (0 ≤ a ∧ g.w ≤ a) ∨ (0 ≤ a ∧ a < g.w ∧ b < 0) ∨ (0 ≤ a ∧ a < g.w ∧ 0 ≤ b ∧ g.d ≤ b) ∨ (0 ≤ a ∧ a < g.w ∧ 0 ≤ b ∧ b < g.d ∧ c < 0) ∨ (0 ≤ a ∧ a < g.w ∧ 0 ≤ b ∧ b < g.d ∧ 0 ≤ c ∧ g.s ≤ c) := by
  unfold Whn.inG at h
  rw [hg, Bool.true_and, decide_eq_true_iff] at h
  omega
theorem num_bounds {g : Gr} {a b c : Int} (h : Whn.inG g a b c = true) : (0 ≤ a * g.d ∧ a * g.d ≤ 140) ∧ (0 ≤ (a * g.d + b) * g.s ∧ (a * g.d + b) * g.s ≤ 13440) ∧ 0 ≤ b ∧ b ≤ 7 ∧ 0 ≤ c ∧ c ≤ 96 := by
  have ha := Whn.all_le g
  have hn := Whn.num_lt h
  have h0 := h
  unfold Whn.inG at h
  rw [Bool.and_eq_true, decide_eq_true_iff] at h
  obtain ⟨hg, h1, h2, h3, h4, h5, h6⟩ := h
  obtain ⟨g1, g2, g3, g4, g5, g6⟩ := (Whn.rgrid_iff g).1 hg
  have p1 : 0 ≤ a * g.d := Int.mul_nonneg h1 (by omega)
  have p2 : a * g.d ≤ 20 * 7 := Int.mul_le_mul (by omega) g4 (by omega) (by omega)
  have p3 : 0 ≤ (a * g.d + b) * g.s := Int.mul_nonneg (by omega) (by omega)
  unfold Whn.num at hn
  exact ⟨⟨p1, by omega⟩, ⟨p3, by omega⟩, h3, by omega, h5, by omega⟩
/-- what Of hands out -/
def ofV (g : Gr) (m : Int) : Value := if Whn.isM g m then .tuple #[.int .i64 (Whn.wk g m), .int .i64 (Whn.dy g m), .int .i64 (Whn.sl g m), .bool true] else .tuple #[.int .i64 0, .int .i64 0, .int .i64 0, .bool false]
end Go.Proofs.YtgmgccepmalahaaGreat
namespace Go.Proofs.YtgmgccepmalahaaGreat
open Go.RowKit
open Whn (Gr Wh)

end Go.Proofs.YtgmgccepmalahaaGreat
namespace Go.Proofs.YtgmgccepmalahaaGreat
open Go.RowKit
open Whn (Gr Wh)

theorem tame_of_sameDay {a b : Wh} (h : Whn.sameDay a b = true) : Whn.tame a = true ∧ Whn.tame b = true := by
  unfold Whn.sameDay at h
  rw [Bool.and_eq_true, Bool.and_eq_true] at h
  exact ⟨h.1, h.2.1⟩
end Go.Proofs.YtgmgccepmalahaaGreat
namespace Go.Proofs.YtgmgccepmalahaaGreat
open Go.RowKit
open Whn (Gr Wh)

/-- what Right asks of a time ahead of its bits -/
def pre (g : Gr) (x : Wh) : Bool := Whn.rgrid g && decide (x.w ≠ 0 ∧ x.d ≠ 0 ∧ 0 ≤ x.s ∧ 1 ≤ x.l ∧ x.s + x.l ≤ g.s)
theorem lt_of_bits {n k m : Nat} (hn : n < 2 ^ m) (h : ∀ j, k ≤ j → j < m → n.testBit j = false) : n < 2 ^ k := by
  refine Nat.lt_pow_two_of_testBit n fun j hj => ?_
  rcases Nat.lt_or_ge j m with h1 | h1
  · exact h j hj h1
  · exact Nat.testBit_lt_two_pow (Nat.lt_of_lt_of_le hn (Nat.pow_le_pow_right (by decide) h1))
theorem not_lt_of_bit {n k j : Nat} (hj : k ≤ j) (h : n.testBit j = true) : ¬ n < 2 ^ k := fun hn => by
  have := Whn.bit_lt hn h
  omega
theorem right_of (g : Gr) (x : Wh) (h : pre g x = true) : Whn.right g x = decide (x.w < 2 ^ g.w.toNat ∧ x.d < 2 ^ g.d.toNat) := by
  unfold pre at h
  rw [Bool.and_eq_true, decide_eq_true_iff] at h
  obtain ⟨h0, h1, h2, h3, h4, h5⟩ := h
  rw [Bool.eq_iff_iff, Whn.right_iff, decide_eq_true_iff]
  exact ⟨fun h => h.2.2.2.2.2.2, fun h => ⟨h0, h1, h2, h3, h4, h5, h⟩⟩
theorem right_not (g : Gr) (x : Wh) (h : pre g x = false) : Whn.right g x = false := by
  cases hr : Whn.right g x with
  | false => rfl
  | true =>
    obtain ⟨h0, h1, h2, h3, h4, h5, _⟩ := (Whn.right_iff g x).1 hr
    unfold pre at h
    rw [h0, Bool.true_and, decide_eq_false_iff_not] at h
    exact absurd ⟨h1, h2, h3, h4, h5⟩ h
set_option maxRecDepth 20000 in
set_option maxHeartbeats 4000000 in
theorem r_Right (g : Gr) (x : Wh) (hx : Wok x) (w : World) : Calls Tryz.prog 213 #[gv g, wv x] w (Did (.bool (Whn.right g x)) w) := by
  obtain ⟨hx1, hx2, hx3, hx4⟩ := hx
  have HT := hid (fun w => r_RightGrid g w)
  have HB := hid (fun (n : Nat) (hn : n < 4294967296) (i : Nat) (hi : i < 64) w => r_bit n hn i hi w)
  obtain ⟨A, W, hA, hW, K, hb0⟩ := (Mem.nil w).one (gc g) 23
  obtain ⟨B, V, hB, hV, K1, hb1⟩ := K.out.one (wc x) 55
  obtain ⟨g0, g1, g2⟩ := K1.out.gr (B := A) (g := g) (by simp)
  obtain ⟨c0, c1, c2, c3⟩ := K1.out.wh (B := B) (x := x) (by simp)
  clear K hb0 hb1
  cases hT : Whn.rgrid g with
  | false =>
    have Hr := hid (show Whn.right g x = false by unfold Whn.right; rw [hT]; rfl)
    rw [hT] at HT
    clear hT HB
    go_enter Tryz.func213, Tryz.ntmps213
    go_wp2_with fail
    refine (HT.out _).mono ?_
    rintro e w1 ⟨rfl, b1⟩
    go_wp2_with fail
    go_ret
    exact Did.mk (by rw [Hr.out]; rfl) (K1.out.next b1).2
  | true =>
    obtain ⟨q1, q2, q3, q4, q5, q6⟩ := (Whn.rgrid_iff g).1 hT
    rw [hT] at HT
    by_cases hpre : pre g x = true
    · have Hr := hid (right_of g x hpre)
      unfold pre at hpre
      rw [hT, Bool.true_and, decide_eq_true_iff] at hpre
      obtain ⟨p1, p2, p3, p4, p5⟩ := hpre
      have p1' : ((x.w : Int) == 0) = false := by rw [beq_eq_false_iff_ne]; omega
      have p2' : ((x.d : Int) == 0) = false := by rw [beq_eq_false_iff_ne]; omega
      have p6 : x.s ≤ g.s := by omega
      have p7 : x.l ≤ g.s - x.s := by omega
      go_enter Tryz.func213, Tryz.ntmps213
      go_wp2_with fail
      refine (HT.out _).mono ?_
      rintro e w1 ⟨rfl, b1⟩
      have K2 := K1.out.next b1
      clear g0 g1 g2 c0 c1 c2 c3
      obtain ⟨g0, g1, g2⟩ := K2.gr (B := A) (g := g) (by simp)
      obtain ⟨c0, c1, c2, c3⟩ := K2.wh (B := B) (x := x) (by simp)
      go_wp2_with fail
      have hw1 := Int.toNat_of_nonneg (show 0 ≤ g.w by omega)
      have hd1 := Int.toNat_of_nonneg (show 0 ≤ g.d by omega)
      have hw2 : g.w.toNat ≤ 20 := by omega
      have hd2 : g.d.toNat ≤ 7 := by omega
      obtain ⟨gw, hgw⟩ : ∃ gw, g.w.toNat = gw := ⟨_, rfl⟩
      obtain ⟨gd, hgd⟩ : ∃ gd, g.d.toNat = gd := ⟨_, rfl⟩
      rw [hgw] at hw1 hw2 Hr
      rw [hgd] at hd1 hd2 Hr
      have Hw1 := hid hw1
      have Hd1 := hid hd1
      have u1 : IntKind.u32.wrap (x.d : Int) = (x.d : Int) := by rw [IntKind.wrap_u32]; omega
      clear hw1 hd1 hgw hgd
      go_loop [5] (fun iv => ∃ i : Nat, iv = .int .i64 i ∧ gw ≤ i ∧ i ≤ 32 ∧ Hid (∀ j, gw ≤ j → j < i → x.w.testBit j = false)) (fun iv => 32 - (intOf iv).toNat)
      case atStart => exact ⟨gw, by rw [Hw1.out], Nat.le_refl _, by omega, hid (fun j h1 h2 => absurd h2 (by omega))⟩
      case round =>
        obtain ⟨i, rfl, hi1, hi2, Hi⟩ := hrel
        by_cases hlt : i < 32
        · have Bw := hid (fun w => HB.out x.w hx1 i (by omega) w)
          cases hb : x.w.testBit i with
          | true =>
            have Hf := hid (show Whn.right g x = false by
              rw [Hr.out, decide_eq_false_iff_not]
              exact fun h => not_lt_of_bit hi1 hb h.1)
            rw [hb] at Bw
            clear hb HB Hi
            go_wp2_with fail
            refine (Bw.out _).mono ?_
            rintro e w' ⟨rfl, rfl⟩
            go_wp2_with fail
            go_ret
            exact Did.mk (by rw [Hf.out]; rfl) K2.2
          | false =>
            have Hn := hid (show ∀ j, gw ≤ j → j < i + 1 → x.w.testBit j = false from fun j h1 h2 => by
              rcases Nat.lt_or_ge j i with h | h
              · exact Hi.out j h1 h
              · obtain rfl : j = i := by omega
                exact hb)
            rw [hb] at Bw
            clear hb HB Hi
            go_wp2_with fail
            refine (Bw.out _).mono ?_
            rintro e w' ⟨rfl, rfl⟩
            go_wp2_with fail
            go_round
            case rel => exact ⟨i + 1, by go_num, by omega, by omega, Hn⟩
            case measure => simp [intOf]; omega
        · obtain rfl : i = 32 := by omega
          have hxw : x.w < 2 ^ gw := lt_of_bits (m := 32) hx1 (fun j h1 h2 => Hi.out j h1 h2)
          have Hxw := hid hxw
          clear Hi hxw
          go_wp2_with fail
          go_loop [6] (fun iv => ∃ i : Nat, iv = .int .i64 i ∧ gd ≤ i ∧ i ≤ 8 ∧ Hid (∀ j, gd ≤ j → j < i → x.d.testBit j = false)) (fun iv => 8 - (intOf iv).toNat)
          case atStart => exact ⟨gd, by rw [Hd1.out], Nat.le_refl _, by omega, hid (fun j h1 h2 => absurd h2 (by omega))⟩
          case round =>
            obtain ⟨i, rfl, hi1, hi2, Hi⟩ := hrel
            by_cases hlt : i < 8
            · have Bd := hid (fun w => HB.out x.d (by omega) i (by omega) w)
              cases hb : x.d.testBit i with
              | true =>
                have Hf := hid (show Whn.right g x = false by
                  rw [Hr.out, decide_eq_false_iff_not]
                  exact fun h => not_lt_of_bit hi1 hb h.2)
                rw [hb] at Bd
                clear hb HB Hi
                go_wp2_with fail
                refine (Bd.out _).mono ?_
                rintro e w' ⟨rfl, rfl⟩
                go_wp2_with fail
                go_ret
                exact Did.mk (by rw [Hf.out]; rfl) K2.2
              | false =>
                have Hn := hid (show ∀ j, gd ≤ j → j < i + 1 → x.d.testBit j = false from fun j h1 h2 => by
                  rcases Nat.lt_or_ge j i with h | h
                  · exact Hi.out j h1 h
                  · obtain rfl : j = i := by omega
                    exact hb)
                rw [hb] at Bd
                clear hb HB Hi
                go_wp2_with fail
                refine (Bd.out _).mono ?_
                rintro e w' ⟨rfl, rfl⟩
                go_wp2_with fail
                go_round
                case rel => exact ⟨i + 1, by go_num, by omega, by omega, Hn⟩
                case measure => simp [intOf]; omega
            · obtain rfl : i = 8 := by omega
              have Hf := hid (show Whn.right g x = true by
                rw [Hr.out, decide_eq_true_iff]
                exact ⟨Hxw.out, lt_of_bits (m := 8) hx2 (fun j h1 h2 => Hi.out j h1 h2)⟩)
              clear Hi HB
              go_wp2_with fail
              go_ret
              exact Did.mk (by rw [Hf.out]; rfl) K2.2
    · have Hf := hid (right_not g x (by cases h : pre g x with | false => rfl | true => exact absurd h hpre))
      have hno : x.w = 0 ∨ (x.w ≠ 0 ∧ x.d = 0) ∨ (x.w ≠ 0 ∧ x.d ≠ 0 ∧ x.s < 0) ∨ (x.w ≠ 0 ∧ x.d ≠ 0 ∧ 0 ≤ x.s ∧ x.l < 1) ∨ (x.w ≠ 0 ∧ x.d ≠ 0 ∧ 0 ≤ x.s ∧ 1 ≤ x.l ∧ g.s < x.s) ∨ (x.w ≠ 0 ∧ x.d ≠ 0 ∧ 0 ≤ x.s ∧ 1 ≤ x.l ∧ x.s ≤ g.s ∧ g.s - x.s < x.l) := by
        unfold pre at hpre
        rw [hT, Bool.true_and, decide_eq_true_iff] at hpre
        omega
      clear hpre hT HB
      rcases hno with h1 | ⟨h1, h2⟩ | ⟨h1, h2, h3⟩ | ⟨h1, h2, h3, h4⟩ | ⟨h1, h2, h3, h4, h5⟩ | ⟨h1, h2, h3, h4, h5, h6⟩
      all_goals
        first
          | (have p1 : ((x.w : Int) == 0) = true := by rw [beq_iff_eq]; omega
             clear h1)
          | (have p1 : ((x.w : Int) == 0) = false := by rw [beq_eq_false_iff_ne]; omega
             first
               | (have p2 : ((x.d : Int) == 0) = true := by rw [beq_iff_eq]; omega
                  clear h1 h2)
               | (have p2 : ((x.d : Int) == 0) = false := by rw [beq_eq_false_iff_ne]; omega))
        go_enter Tryz.func213, Tryz.ntmps213
        go_wp2_with fail
        refine (HT.out _).mono ?_
        rintro e w1 ⟨rfl, b1⟩
        have K2 := K1.out.next b1
        clear g0 g1 g2 c0 c1 c2 c3
        obtain ⟨g0, g1, g2⟩ := K2.gr (B := A) (g := g) (by simp)
        obtain ⟨c0, c1, c2, c3⟩ := K2.wh (B := B) (x := x) (by simp)
        go_wp2_with fail
        go_ret
        exact Did.mk (by rw [Hf.out]; rfl) K2.2
end Go.Proofs.YtgmgccepmalahaaGreat
namespace Go.Proofs.YtgmgccepmalahaaGreat
open Go.RowKit
open Whn (Gr Wh)

theorem Tryz.info_int : (Tryz.prog.info? 3).map (fun i => (i.zero, i.size, i.bytes)) = some (some (.int .i64 0), 1, 8) := by kernel_rfl
/-- hands out a row of ints -/
def ItRet (l : List Int) (w : World) (e : Ending) (w' : World) : Prop := ∃ A c, e = .returned (.slice A l.length c) ∧ Its w' w'.heap.size A l ∧ Below w.heap.size w w'
theorem ItRet.mk {l l' : List Int} {w w' : World} {A : Option Addr} {c : Nat} (h : Its w' w'.heap.size A l) (hb : Below w.heap.size w w') (hl : l = l') : ItRet l' w (.returned (.slice A l.length c)) w' := by
  subst hl
  exact ⟨A, c, rfl, h, hb⟩
end Go.Proofs.YtgmgccepmalahaaGreat
