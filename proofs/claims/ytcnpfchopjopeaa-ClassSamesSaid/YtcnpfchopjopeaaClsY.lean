/- Which seat is the cheapest, time and place apart (layer 13): mathematics. -/
import Derived.Test.YtcnpfchopjopeaaClsX
import Derived.Test.YtcnpfchopjopeaaClsP
namespace Go.Proofs.Ytcnpfchopjopeaa
open Go.RowKit
open Whn (Gr Wh)

theorem whole_iff (x : Cl) (s : Se) : wholeB x s = true ↔ seatB x s = true ∧ s.t ≠ -1 ∧ (s.p ≠ -1 ∨ x.l.length = 0) := by
  unfold wholeB
  rw [Bool.and_eq_true, Bool.and_eq_true, Bool.or_eq_true, bne_iff_ne, bne_iff_ne, beq_iff_eq, and_assoc]
  have : ((x.l.length : Int) = 0) = (x.l.length = 0) := propext ⟨fun h => by omega, fun h => by omega⟩
  rw [this]
theorem whole_parts {x : Cl} {s : Se} (h : wholeB x s = true) : ∃ (i : Nat) (y : Tm), s.t = (i : Int) ∧ x.t[i]? = some y ∧ costT x s = y.c ∧ ((x.l.length = 0 ∧ s.p = -1 ∧ costP x s = 0) ∨ ∃ (j : Nat) (z : Pl), s.p = (j : Int) ∧ x.l[j]? = some z ∧ costP x s = z.c) := by
  obtain ⟨hs, ht, hp⟩ := (whole_iff x s).1 h
  obtain ⟨a1, a2, a3, a4⟩ := (seatB_iff x s).1 hs
  obtain ⟨i, hi⟩ := Int.eq_ofNat_of_zero_le (show 0 ≤ s.t by omega)
  have hil : i < x.t.length := by omega
  refine ⟨i, x.t[i], hi, List.getElem?_eq_getElem hil, ?_, ?_⟩
  · unfold costT
    rw [hs, decide_eq_true (show 0 ≤ s.t by omega), hi, Int.toNat_natCast, List.getD_eq_getElem?_getD, List.getElem?_eq_getElem hil]
    rfl
  · by_cases hp1 : s.p = -1
    · refine .inl ⟨by rcases hp with h | h; exact absurd hp1 h; exact h, hp1, ?_⟩
      unfold costP
      rw [decide_eq_false (show ¬ 0 ≤ s.p by omega), Bool.and_false]
      rfl
    · obtain ⟨j, hj⟩ := Int.eq_ofNat_of_zero_le (show 0 ≤ s.p by omega)
      have hjl : j < x.l.length := by omega
      refine .inr ⟨j, x.l[j], hj, List.getElem?_eq_getElem hjl, ?_⟩
      unfold costP
      rw [hs, decide_eq_true (show 0 ≤ s.p by omega), hj, Int.toNat_natCast, List.getD_eq_getElem?_getD, List.getElem?_eq_getElem hjl]
      rfl
theorem whole_mem {x : Cl} {s : Se} (h : wholeB x s = true) : s ∈ seats x := by
  obtain ⟨hs, ht, hp⟩ := (whole_iff x s).1 h
  obtain ⟨a1, a2, a3, a4⟩ := (seatB_iff x s).1 hs
  obtain ⟨i, hi⟩ := Int.eq_ofNat_of_zero_le (show 0 ≤ s.t by omega)
  obtain ⟨j, hj⟩ := Int.eq_ofNat_of_zero_le (show 0 ≤ s.p + 1 by omega)
  have hjl : j < x.l.length + 1 := by omega
  have hil : i < x.t.length := by omega
  refine List.mem_filter.2 ⟨List.mem_map.2 ⟨i * (x.l.length + 1) + j, List.mem_range.2 ?_, ?_⟩, h⟩
  · have := Nat.mul_le_mul_right (x.l.length + 1) (show i + 1 ≤ x.t.length by omega)
    rw [Nat.succ_mul] at this
    omega
  · rw [cand_at _ _ _ hjl]
    obtain ⟨st, sp⟩ := s
    simp only at hi hj
    rw [hi, show (j : Int) - 1 = sp by omega]
/-- by rising time, then by rising place -/
def Lex (a b : Se) : Prop := a.t < b.t ∨ (a.t = b.t ∧ a.p < b.p)
theorem seatsAt_pw (x : Cl) (t : Nat) : (seatsAt x t).Pairwise Lex := by
  unfold seatsAt
  split
  · exact List.pairwise_singleton _ _
  · rw [List.pairwise_map]
    exact List.pairwise_lt_range.imp fun h => .inr ⟨rfl, by simpa using h⟩
theorem seatsAt_t {x : Cl} {t : Nat} {s : Se} (h : s ∈ seatsAt x t) : s.t = (t : Int) := by
  unfold seatsAt at h
  split at h
  · rw [List.mem_singleton] at h; rw [h]
  · obtain ⟨p, _, rfl⟩ := List.mem_map.1 h; rfl
theorem seats_pw (x : Cl) : (seats x).Pairwise Lex := by
  rw [seats_eq, List.pairwise_flatMap]
  refine ⟨fun t _ => seatsAt_pw x t, List.pairwise_lt_range.imp fun h a ha b hb => .inl ?_⟩
  rw [seatsAt_t ha, seatsAt_t hb]
  omega
/-- the cheapest time, the cheapest place -/
def bestS (x : Cl) : Se := ⟨amin Tm.c x.t x.t.length, amin Pl.c x.l x.l.length⟩
theorem best_whole (x : Cl) : wholeB x (bestS x) = decide (0 < x.t.length) := by
  rw [Bool.eq_iff_iff, decide_eq_true_iff, whole_iff, seatB_iff]
  have h1 := amin_bnd (f := Tm.c) (l := x.t) x.t.length (Nat.le_refl _)
  have h2 := amin_inv (f := Pl.c) (l := x.l) x.l.length (Nat.le_refl _)
  have h3 := amin_inv (f := Tm.c) (l := x.t) x.t.length (Nat.le_refl _)
  unfold bestS
  simp only
  rcases h3 with ⟨a, b⟩ | ⟨m, z, a, b, _⟩ <;> rcases h2 with ⟨c, d⟩ | ⟨n, u, c, d, _⟩ <;> (rw [b, d]; omega)
theorem best_eq {x : Cl} (h : 0 < x.t.length) : bestS x = cheapS x := by
  have hw : wholeB x (bestS x) = true := by rw [best_whole, decide_eq_true h]
  obtain ⟨j, hj⟩ := List.mem_iff_getElem?.1 (whole_mem hw)
  obtain ⟨m, hm, hn, hmin, hfirst⟩ := cheap_some h
  obtain ⟨it, zt, b1, b2, b3, b4⟩ := whole_parts hw
  have T1 : ∀ (i : Nat) (y : Tm), x.t[i]? = some y → zt.c ≤ y.c ∧ ((i : Int) < (bestS x).t → zt.c < y.c) := fun i y hy => by
    have hi := (List.getElem?_eq_some_iff.1 hy).1
    rcases amin_inv (f := Tm.c) (l := x.t) x.t.length (Nat.le_refl _) with ⟨a, _⟩ | ⟨n, z, a, a1, a2, a3, a4⟩
    · omega
    · have e1 : (bestS x).t = (n : Int) := a1
      obtain rfl : it = n := by omega
      rw [b2] at a2
      rw [Option.some.inj a2]
      exact ⟨a3 i y hi hy, fun hlt => a4 i y (by omega) hy⟩
  have P1 : ∀ (i : Nat) (y : Pl), x.l[i]? = some y → costP x (bestS x) ≤ y.c ∧ ((i : Int) < (bestS x).p → costP x (bestS x) < y.c) := fun i y hy => by
    have hi := (List.getElem?_eq_some_iff.1 hy).1
    rcases amin_inv (f := Pl.c) (l := x.l) x.l.length (Nat.le_refl _) with ⟨a, _⟩ | ⟨n, z, a, a1, a2, a3, a4⟩
    · omega
    · have e1 : (bestS x).p = (n : Int) := a1
      rcases b4 with ⟨c1, _⟩ | ⟨k, u, c1, c2, c3⟩
      · omega
      · obtain rfl : k = n := by omega
        rw [c2] at a2
        rw [c3, Option.some.inj a2]
        exact ⟨a3 i y hi hy, fun hlt => a4 i y (by omega) hy⟩
  -- of each seat: not cheaper than this one; and dearer, if it stands ahead
  have ALL : ∀ s, s ∈ seats x → costT x (bestS x) + costP x (bestS x) ≤ costT x s + costP x s ∧ (Lex s (bestS x) → costT x (bestS x) + costP x (bestS x) < costT x s + costP x s) := fun s hs => by
    obtain ⟨i, y, d1, d2, d3, d4⟩ := whole_parts (seats_mem hs)
    obtain ⟨t1, t2⟩ := T1 i y d2
    rw [b3, d3]
    have hp : costP x (bestS x) ≤ costP x s ∧ (s.p < (bestS x).p → costP x (bestS x) < costP x s) := by
      rcases d4 with ⟨c1, c2, c3⟩ | ⟨k, u, c1, c2, c3⟩
      · rcases b4 with ⟨_, e2, e3⟩ | ⟨k', u', _, e2, _⟩
        · exact ⟨by omega, fun h => by omega⟩
        · have := (List.getElem?_eq_some_iff.1 e2).1; omega
      · obtain ⟨p1, p2⟩ := P1 k u c2
        rw [c3]
        exact ⟨p1, fun h => p2 (by omega)⟩
    refine ⟨by omega, fun hl => ?_⟩
    rcases hl with hl | ⟨hl1, hl2⟩
    · have := t2 (by omega); omega
    · have := hp.2 hl2; omega
  have hS := List.mem_of_getElem? hm
  have hpw := List.pairwise_iff_getElem.1 (seats_pw x)
  have hml := (List.getElem?_eq_some_iff.1 hm).1
  have hjl := (List.getElem?_eq_some_iff.1 hj).1
  have hme := (List.getElem?_eq_some_iff.1 hm).2
  have hje := (List.getElem?_eq_some_iff.1 hj).2
  rcases Nat.lt_trichotomy m j with hlt | rfl | hlt
  · have hx := hpw m j hml hjl hlt
    rw [hme, hje] at hx
    have := (ALL _ hS).2 hx
    have := hmin j _ hj
    omega
  · rw [hj] at hm
    exact Option.some.inj hm
  · have := hfirst j _ hlt hj
    have := (ALL _ hS).1
    omega
end Go.Proofs.Ytcnpfchopjopeaa
