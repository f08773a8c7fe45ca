/- Mathematics of layer 15 (pair): which rules hold of two spots, which never can, and what follows. Nothing of a program is spoken of here. -/
import Derived.Test.YtnhniajfnmdnnaaDoorPaiM
import Derived.Test.YtnhniajfnmdnnaaDoorPerG
namespace Go.Proofs.YtnhniajfnmdnnaaDoor
open Go.RowKit
open Whn (Gr Wh)

structure Sp where
  w : Wh
  r : Int
abbrev spv (x : Sp) : Value := .agg #[.int .u32 (x.w.w : Int), .int .u8 (x.w.d : Int), .int .i64 x.w.s, .int .i64 x.w.l, .int .i64 x.r]
abbrev spc (x : Sp) : List Value := [.int .u32 (x.w.w : Int), .int .u8 (x.w.d : Int), .int .i64 x.w.s, .int .i64 x.w.l, .int .i64 x.r]
def knB (k : Int) : Bool := decide (1 ≤ k) && decide (k ≤ 14)
def roB (k : Int) : Bool := decide (k = 10) || decide (k = 11)
def inS (a b : Wh) : Bool := decide (b.s ≤ a.s) && decide (a.s + a.l ≤ b.s + b.l)
def inN (a b : Nat) : Bool := decide (a &&& b = a)
def tmB (g : Gr) (k n : Int) (a b : Wh) (walk : Int) : Bool :=
  if k = 1 then decide (a.s = b.s) else
  if k = 2 then inS a b || inS b a else
  if k = 3 then decide (a.s + a.l ≤ b.s) || decide (b.s + b.l ≤ a.s) else
  if k = 4 then inN a.d b.d || inN b.d a.d else
  if k = 5 then decide (a.d &&& b.d = 0) else
  if k = 6 then inN a.w b.w || inN b.w a.w else
  if k = 7 then decide (a.w &&& b.w = 0) else
  if k = 8 then Whn.meet a b else
  if k = 9 then !(Whn.meet a b) else
  if k = 12 then decide (Whn.lst g a < Whn.fst g b) else
  if k = 13 then !(Whn.sameDay a b) || decide (max (a.s + a.l) (b.s + b.l) - min a.s b.s ≤ n) else
  decide (k = 14) && reach a b walk
def sroB (x y : Sp) : Bool := decide (0 ≤ x.r) && decide (x.r = y.r)
def prH (g : Gr) (k n : Int) (x y : Sp) (walk : Int) : Bool :=
  knB k && (if k = 10 then sroB x y else if k = 11 then !(sroB x y) else Whn.right g x.w && (Whn.right g y.w && tmB g k n x.w y.w walk))
/-- are both rooms known? -/
def plB (x y : Sp) : Bool := !decide (x.r = -2) && !decide (y.r = -2)
def prN (g : Gr) (k n : Int) (x y : Sp) (walk : Int) : Bool :=
  knB k && (
    if k = 10 then (plB x y || (decide (x.r = -1) || decide (y.r = -1))) && !(prH g k n x y walk) else
    if k = 11 then plB x y && !(prH g k n x y walk) else
    (!decide (x.w.w = 0) && !decide (y.w.w = 0)) && (if k = 14 then !(prH g k n x y 0) || (plB x y && !(prH g k n x y walk)) else !(prH g k n x y walk)))
/-- more walk, less reach -/
theorem reach_less {a b : Wh} {n m : Int} (h : n ≤ m) (hm : reach a b m = true) : reach a b n = true := by
  unfold reach at hm ⊢
  rw [Bool.or_eq_true] at hm ⊢
  refine hm.imp id fun h1 => ?_
  rw [Bool.and_eq_true, decide_eq_true_iff] at h1 ⊢
  exact ⟨h1.1, Int.le_trans h h1.2⟩
theorem sameDay_comm (a b : Wh) : Whn.sameDay a b = Whn.sameDay b a := by
  unfold Whn.sameDay
  rw [Nat.and_comm a.w b.w, Nat.and_comm a.d b.d, ← Bool.and_assoc, ← Bool.and_assoc, Bool.and_comm (Whn.tame a)]
theorem slots_comm (a b : Wh) : Whn.slots a b = Whn.slots b a := by
  unfold Whn.slots
  rw [Int.max_comm, Int.min_comm]
theorem meet_comm (a b : Wh) : Whn.meet a b = Whn.meet b a := by
  unfold Whn.meet
  rw [sameDay_comm, slots_comm]
theorem apart_iff {a b : Wh} (h : Whn.slots a b = false) (ha : Whn.tame a = true) (hb : Whn.tame b = true) : a.s + a.l ≤ b.s ∨ b.s + b.l ≤ a.s := by
  have h1 := (Whn.tame_iff a).1 ha
  have h2 := (Whn.tame_iff b).1 hb
  unfold Whn.slots at h
  rw [decide_eq_false_iff_not] at h
  omega
theorem sameDay_tame {a b : Wh} (h : Whn.sameDay a b = true) : Whn.tame a = true ∧ Whn.tame b = true := by
  unfold Whn.sameDay at h
  rw [Bool.and_eq_true, Bool.and_eq_true] at h
  exact ⟨h.1, h.2.1⟩
theorem gap_comm (a b : Wh) : Whn.gap a b = Whn.gap b a := by
  unfold Whn.gap
  rw [sameDay_comm b a, slots_comm b a]
  by_cases h : (Whn.sameDay a b && !(Whn.slots a b)) = true
  · rw [if_pos h, if_pos h]
    rw [Bool.and_eq_true, Bool.not_eq_true'] at h
    obtain ⟨h1, h2⟩ := h
    obtain ⟨ta, tb⟩ := sameDay_tame h1
    have h3 := apart_iff h2 ta tb
    have e1 := (Whn.tame_iff a).1 ta
    have e2 := (Whn.tame_iff b).1 tb
    split <;> split <;> omega
  · rw [if_neg h, if_neg h]
theorem reach_comm (a b : Wh) (n : Int) : reach a b n = reach b a n := by
  unfold reach Whn.gapS
  rw [sameDay_comm a b, slots_comm a b, gap_comm a b]
theorem reach_zero {a b : Wh} : reach a b 0 = !(Whn.meet a b) := by
  unfold reach Whn.meet Whn.gapS
  cases h1 : Whn.sameDay a b with
  | false => rfl
  | true =>
    cases h2 : Whn.slots a b with
    | true => rfl
    | false =>
      obtain ⟨ta, tb⟩ := sameDay_tame h1
      have h3 := apart_iff h2 ta tb
      have e1 := (Whn.tame_iff a).1 ta
      have e2 := (Whn.tame_iff b).1 tb
      have hg : 0 ≤ Whn.gap a b := by
        unfold Whn.gap
        rw [h1, h2]
        simp only [Bool.not_false, Bool.and_true, if_true]
        split <;> omega
      rw [decide_eq_true hg]; rfl
theorem tm_turn {g : Gr} {k n : Int} {a b : Wh} {walk : Int} (hk : k ≠ 12) : tmB g k n a b walk = tmB g k n b a walk := by
  unfold tmB
  rw [if_neg hk, if_neg hk, Bool.or_comm (inS a b), Bool.or_comm (inN a.d b.d), Bool.or_comm (inN a.w b.w), Nat.and_comm a.d b.d, Nat.and_comm a.w b.w, meet_comm a b, sameDay_comm a b, reach_comm a b, Int.max_comm (a.s + a.l), Int.min_comm a.s, Bool.or_comm (decide (a.s + a.l ≤ b.s))]
  have e : decide (a.s = b.s) = decide (b.s = a.s) := by rw [decide_eq_decide]; exact eq_comm
  rw [e]
theorem sro_comm (x y : Sp) : sroB x y = sroB y x := by
  unfold sroB
  rw [Bool.eq_iff_iff, Bool.and_eq_true, Bool.and_eq_true, decide_eq_true_iff, decide_eq_true_iff, decide_eq_true_iff, decide_eq_true_iff]
  omega
theorem pl_comm (x y : Sp) : plB x y = plB y x := by
  unfold plB
  rw [Bool.and_comm]
theorem prH_turn {g : Gr} {k n : Int} {x y : Sp} {walk : Int} (hk : k ≠ 12) : prH g k n x y walk = prH g k n y x walk := by
  unfold prH
  rw [sro_comm x y, tm_turn hk, ← Bool.and_assoc (Whn.right g x.w), ← Bool.and_assoc (Whn.right g y.w), Bool.and_comm (Whn.right g x.w)]
theorem prN_turn {g : Gr} {k n : Int} {x y : Sp} {walk : Int} (hk : k ≠ 12) : prN g k n x y walk = prN g k n y x walk := by
  unfold prN
  rw [prH_turn (x := x) (y := y) hk, prH_turn (x := x) (y := y) (walk := 0) hk, pl_comm x y, Bool.or_comm (decide (x.r = -1)), Bool.and_comm (!decide (x.w.w = 0))]
/-- not both stand ahead of each other -/
theorem before_not {g : Gr} {n : Int} {x y : Sp} {walk : Int} (hx : Wok x.w) (hy : Wok y.w) : ¬ (prH g 12 n x y walk = true ∧ prH g 12 n y x walk = true) := by
  rintro ⟨h1, h2⟩
  have e : ∀ u v : Sp, prH g 12 n u v walk = (Whn.right g u.w && (Whn.right g v.w && decide (Whn.lst g u.w < Whn.fst g v.w))) := fun u v => rfl
  rw [e, Bool.and_eq_true, Bool.and_eq_true, decide_eq_true_iff] at h1 h2
  have b1 := Whn.fst_bounds h1.1 hx.1 hx.2.1
  have b2 := Whn.fst_bounds h1.2.1 hy.1 hy.2.1
  have l1 : Whn.lst g x.w = Whn.fst g x.w + x.w.l - 1 := by unfold Whn.lst; rw [if_pos h1.1]
  have l2 : Whn.lst g y.w = Whn.fst g y.w + y.w.l - 1 := by unfold Whn.lst; rw [if_pos h1.2.1]
  have := h1.2.2
  have := h2.2.2
  omega
/-- where all is known, what can't hold is what does not -/
theorem never_known {g : Gr} {k n : Int} {x y : Sp} {walk : Int} (hx : x.w.w ≠ 0) (hy : y.w.w ≠ 0) (hp : plB x y = true) (hw : k = 14 → 0 ≤ walk) : prN g k n x y walk = (knB k && !(prH g k n x y walk)) := by
  unfold prN
  rw [hp, decide_eq_false hx, decide_eq_false hy]
  by_cases h14 : k = 14
  · subst h14
    cases h : prH g 14 n x y walk with
    | false => simp
    | true =>
      have h0 : prH g 14 n x y 0 = true := by
        have e : ∀ m, prH g 14 n x y m = (Whn.right g x.w && (Whn.right g y.w && reach x.w y.w m)) := fun m => rfl
        rw [e, Bool.and_eq_true, Bool.and_eq_true] at h ⊢
        exact ⟨h.1, h.2.1, reach_less (hw rfl) h.2.2⟩
      rw [h0]
      simp
  · simp only [if_neg h14, Bool.true_or, Bool.true_and, Bool.not_false]
    split
    · rfl
    · split <;> rfl
/-- what can't hold of some can't hold when more is known -/
theorem never_keeps {g : Gr} {k n : Int} {x y u v : Sp} {walk far : Int} (hx : x.w.w ≠ 0) (hy : y.w.w ≠ 0) (hp : plB x y = true) (hu : u.w = x.w ∨ u.w.w = 0) (hv : v.w = y.w ∨ v.w.w = 0)
    (hur : u.r = x.r ∨ (u.r = -2 ∧ 0 ≤ x.r)) (hvr : v.r = y.r ∨ (v.r = -2 ∧ 0 ≤ y.r)) (hf : far = walk ∨ (far = 0 ∧ (u.r < 0 ∨ v.r < 0))) (h : prN g k n u v far = true) : prN g k n x y walk = true := by
  have hp2 : x.r ≠ -2 ∧ y.r ≠ -2 := by
    unfold plB at hp
    rw [Bool.and_eq_true, Bool.not_eq_true', Bool.not_eq_true', decide_eq_false_iff_not, decide_eq_false_iff_not] at hp
    exact hp
  unfold prN at h ⊢
  rw [Bool.and_eq_true] at h
  rw [h.1, Bool.true_and, hp, decide_eq_false hx, decide_eq_false hy]
  have h := h.2
  by_cases h10 : k = 10
  · subst h10
    have e : ∀ (u v : Sp) m, prH g 10 n u v m = sroB u v := fun u v m => rfl
    simp only [if_true, e, Bool.true_or, Bool.true_and] at h ⊢
    unfold sroB plB at h
    unfold sroB
    simp only [Bool.and_eq_true, Bool.or_eq_true, Bool.not_eq_true', decide_eq_true_iff, decide_eq_false_iff_not, Bool.and_eq_false_iff] at h ⊢
    omega
  by_cases h11 : k = 11
  · subst h11
    have e : ∀ (u v : Sp) m, prH g 11 n u v m = !(sroB u v) := fun u v m => rfl
    simp only [if_neg (show ¬ (11 : Int) = 10 by decide), if_true, e, Bool.true_and, Bool.not_not] at h ⊢
    unfold sroB plB at h
    unfold sroB
    simp only [Bool.and_eq_true, Bool.not_eq_true', decide_eq_true_iff, decide_eq_false_iff_not] at h ⊢
    omega
  rw [if_neg h10, if_neg h11] at h ⊢
  rw [Bool.and_eq_true, Bool.and_eq_true, Bool.not_eq_true', Bool.not_eq_true', decide_eq_false_iff_not, decide_eq_false_iff_not] at h
  obtain ⟨⟨hu0, hv0⟩, h⟩ := h
  have eu : u.w = x.w := hu.resolve_right hu0
  have ev : v.w = y.w := hv.resolve_right hv0
  have e : ∀ (a b : Sp) m, prH g k n a b m = (knB k && (Whn.right g a.w && (Whn.right g b.w && tmB g k n a.w b.w m))) := fun a b m => by
    unfold prH
    rw [if_neg h10, if_neg h11]
  have eq : ∀ m, prH g k n u v m = prH g k n x y m := fun m => by rw [e, e, eu, ev]
  rw [eq, eq] at h
  by_cases h14 : k = 14
  · rw [if_pos h14] at h ⊢
    simp only [Bool.not_false, Bool.true_and]
    cases h0 : prH g k n x y 0 with
    | false => rfl
    | true =>
      rw [h0, Bool.not_true, Bool.false_or, Bool.and_eq_true] at h
      have hpl := h.1
      unfold plB at hpl
      rw [Bool.and_eq_true, Bool.not_eq_true', Bool.not_eq_true', decide_eq_false_iff_not, decide_eq_false_iff_not] at hpl
      rcases hf with rfl | ⟨rfl, _⟩
      · rw [Bool.not_true, Bool.false_or]; exact h.2
      · rw [h0] at h; exact absurd h.2 (by decide)
  · rw [if_neg h14] at h ⊢
    simp only [Bool.not_false, Bool.true_and]
    have ew : ∀ m, prH g k n x y m = prH g k n x y walk := fun m => by
      rw [e, e]
      congr 3
      unfold tmB
      rw [decide_eq_false h14]
      simp
    rw [ew] at h
    exact h
/-! ### no two hold that forbid each other -/
theorem both_time {g : Gr} {x y : Sp} : ¬ (prH g 2 0 x y 0 = true ∧ prH g 3 0 x y 0 = true) := by
  rintro ⟨h1, h2⟩
  have e1 : prH g 2 0 x y 0 = (Whn.right g x.w && (Whn.right g y.w && (inS x.w y.w || inS y.w x.w))) := rfl
  have e2 : prH g 3 0 x y 0 = (Whn.right g x.w && (Whn.right g y.w && (decide (x.w.s + x.w.l ≤ y.w.s) || decide (y.w.s + y.w.l ≤ x.w.s)))) := rfl
  rw [e1, Bool.and_eq_true, Bool.and_eq_true] at h1
  rw [e2, Bool.and_eq_true, Bool.and_eq_true] at h2
  have t1 := (Whn.tame_iff _).1 (Whn.right_tame h1.1)
  have t2 := (Whn.tame_iff _).1 (Whn.right_tame h1.2.1)
  have h1 := h1.2.2
  have h2 := h2.2.2
  unfold inS at h1
  simp only [Bool.or_eq_true, Bool.and_eq_true, decide_eq_true_iff] at h1 h2
  omega
theorem both_days {g : Gr} {x y : Sp} : ¬ (prH g 4 0 x y 0 = true ∧ prH g 5 0 x y 0 = true) := by
  rintro ⟨h1, h2⟩
  have e1 : prH g 4 0 x y 0 = (Whn.right g x.w && (Whn.right g y.w && (inN x.w.d y.w.d || inN y.w.d x.w.d))) := rfl
  have e2 : prH g 5 0 x y 0 = (Whn.right g x.w && (Whn.right g y.w && decide (x.w.d &&& y.w.d = 0))) := rfl
  rw [e1, Bool.and_eq_true, Bool.and_eq_true] at h1
  rw [e2, Bool.and_eq_true, Bool.and_eq_true] at h2
  have r1 := (Whn.right_iff _ _).1 h1.1
  have r2 := (Whn.right_iff _ _).1 h1.2.1
  have h1 := h1.2.2
  have h2 := of_decide_eq_true h2.2.2
  unfold inN at h1
  rw [Nat.and_comm y.w.d, h2] at h1
  simp only [Bool.or_eq_true, decide_eq_true_iff] at h1
  rcases h1 with h1 | h1
  · exact r1.2.2.1 h1.symm
  · exact r2.2.2.1 h1.symm
theorem both_weeks {g : Gr} {x y : Sp} : ¬ (prH g 6 0 x y 0 = true ∧ prH g 7 0 x y 0 = true) := by
  rintro ⟨h1, h2⟩
  have e1 : prH g 6 0 x y 0 = (Whn.right g x.w && (Whn.right g y.w && (inN x.w.w y.w.w || inN y.w.w x.w.w))) := rfl
  have e2 : prH g 7 0 x y 0 = (Whn.right g x.w && (Whn.right g y.w && decide (x.w.w &&& y.w.w = 0))) := rfl
  rw [e1, Bool.and_eq_true, Bool.and_eq_true] at h1
  rw [e2, Bool.and_eq_true, Bool.and_eq_true] at h2
  have r1 := (Whn.right_iff _ _).1 h1.1
  have r2 := (Whn.right_iff _ _).1 h1.2.1
  have h1 := h1.2.2
  have h2 := of_decide_eq_true h2.2.2
  unfold inN at h1
  rw [Nat.and_comm y.w.w, h2] at h1
  simp only [Bool.or_eq_true, decide_eq_true_iff] at h1
  rcases h1 with h1 | h1
  · exact r1.2.1 h1.symm
  · exact r2.2.1 h1.symm
theorem apart_folk {g : Gr} {x y : Sp} : prH g 9 0 x y 0 = prH g 14 0 x y 0 := by
  have e1 : prH g 9 0 x y 0 = (Whn.right g x.w && (Whn.right g y.w && !(Whn.meet x.w y.w))) := rfl
  have e2 : prH g 14 0 x y 0 = (Whn.right g x.w && (Whn.right g y.w && reach x.w y.w 0)) := rfl
  rw [e1, e2, reach_zero]
theorem both_meet {g : Gr} {x y : Sp} : ¬ (prH g 8 0 x y 0 = true ∧ prH g 9 0 x y 0 = true) := by
  rintro ⟨h1, h2⟩
  have e1 : prH g 8 0 x y 0 = (Whn.right g x.w && (Whn.right g y.w && Whn.meet x.w y.w)) := rfl
  have e2 : prH g 9 0 x y 0 = (Whn.right g x.w && (Whn.right g y.w && !(Whn.meet x.w y.w))) := rfl
  rw [e1, Bool.and_eq_true, Bool.and_eq_true] at h1
  rw [e2, Bool.and_eq_true, Bool.and_eq_true, h1.2.2] at h2
  exact absurd h2.2.2 (by decide)
theorem room_some {g : Gr} {x y : Sp} : (prH g 10 0 x y 0 || prH g 11 0 x y 0) = true := by
  have e1 : prH g 10 0 x y 0 = sroB x y := rfl
  have e2 : prH g 11 0 x y 0 = !(sroB x y) := rfl
  rw [e1, e2]
  cases sroB x y <;> rfl
theorem both_room {g : Gr} {x y : Sp} : ¬ (prH g 10 0 x y 0 = true ∧ prH g 11 0 x y 0 = true) := by
  rintro ⟨h1, h2⟩
  have e1 : prH g 10 0 x y 0 = sroB x y := rfl
  have e2 : prH g 11 0 x y 0 = !(sroB x y) := rfl
  rw [e1] at h1
  rw [e2, h1] at h2
  exact absurd h2 (by decide)
end Go.Proofs.YtnhniajfnmdnnaaDoor
