/- Which seats there are, and which is the cheapest (layer 13): mathematics. -/
import Derived.Test.YtcnpfchopjopeaaClsF
namespace Go.Proofs.Ytcnpfchopjopeaa
open Go.RowKit
open Whn (Gr Wh)

/-- the seats of one time -/
def seatsAt (x : Cl) (t : Nat) : List Se := if x.l.length = 0 then [⟨(t : Int), -1⟩] else (List.range x.l.length).map fun (p : Nat) => ⟨(t : Int), (p : Int)⟩
theorem seats_mem {x : Cl} {s : Se} (h : s ∈ seats x) : wholeB x s = true := (List.mem_filter.1 h).2
theorem whole_cand {x : Cl} {t j : Nat} (ht : t < x.t.length) (hj : j < x.l.length + 1) : wholeB x (cand x.l.length (t * (x.l.length + 1) + j)) = (decide (0 < j) || decide (x.l.length = 0)) := by
  rw [cand_at _ _ _ hj]
  unfold wholeB seatB
  have a1 : (-1 : Int) ≤ (t : Int) := by omega
  have a2 : (t : Int) < (x.t.length : Nat) := by omega
  have a3 : (-1 : Int) ≤ (j : Int) - 1 := by omega
  have a4 : (j : Int) - 1 < (x.l.length : Nat) := by omega
  have a5 : ((t : Int) != -1) = true := by rw [bne_iff_ne]; omega
  simp only [decide_eq_true a1, decide_eq_true a2, decide_eq_true a3, decide_eq_true a4, a5, Bool.true_and]
  by_cases hj0 : 0 < j
  · have b1 : ((j : Int) - 1 != -1) = true := by rw [bne_iff_ne]; omega
    rw [b1, decide_eq_true hj0, Bool.true_or, Bool.true_or]
  · have b1 : ((j : Int) - 1 != -1) = false := by rw [bne_eq_false_iff_eq]; omega
    rw [b1, decide_eq_false hj0, Bool.false_or, Bool.false_or]
    by_cases hl : x.l.length = 0
    · rw [hl]; rfl
    · rw [decide_eq_false hl, beq_eq_false_iff_ne]; omega
theorem seatsTo_row (x : Cl) {t : Nat} (ht : t < x.t.length) : ∀ j, j ≤ x.l.length + 1 → seatsTo x (t * (x.l.length + 1) + j) = seatsTo x (t * (x.l.length + 1)) ++ (if x.l.length = 0 then (if j = 0 then [] else [⟨(t : Int), -1⟩]) else (List.range (j - 1)).map fun (p : Nat) => ⟨(t : Int), (p : Int)⟩)
  | 0, _ => by
    by_cases hl : x.l.length = 0
    · rw [if_pos hl, if_pos rfl, List.append_nil]; rfl
    · rw [if_neg hl]; simp
  | j + 1, h => by
    have ih := seatsTo_row x ht j (by omega)
    rw [show t * (x.l.length + 1) + (j + 1) = (t * (x.l.length + 1) + j) + 1 from rfl, seatsTo_succ, ih, whole_cand ht (by omega), cand_at _ _ _ (by omega), List.append_assoc]
    congr 1
    by_cases hl : x.l.length = 0
    · obtain rfl : j = 0 := by omega
      rw [if_pos hl, if_pos hl, if_pos rfl, decide_eq_true hl]
      simp
    · rw [if_neg hl, if_neg hl, decide_eq_false hl, Bool.or_false]
      by_cases hj : 0 < j
      · obtain ⟨i, rfl⟩ : ∃ i, j = i + 1 := ⟨j - 1, by omega⟩
        rw [decide_eq_true hj, if_pos rfl, show i + 1 + 1 - 1 = i + 1 from rfl, show i + 1 - 1 = i from rfl, List.range_succ, List.map_append]
        congr 1
        show [(⟨(t : Int), ((i + 1 : Nat) : Int) - 1⟩ : Se)] = [⟨(t : Int), (i : Int)⟩]
        rw [show ((i + 1 : Nat) : Int) - 1 = (i : Int) by omega]
      · obtain rfl : j = 0 := by omega
        simp
theorem seatsTo_time (x : Cl) {t : Nat} (ht : t < x.t.length) : seatsTo x ((t + 1) * (x.l.length + 1)) = seatsTo x (t * (x.l.length + 1)) ++ seatsAt x t := by
  rw [Nat.succ_mul, seatsTo_row x ht (x.l.length + 1) (Nat.le_refl _)]
  congr 1
theorem seatsTo_eq (x : Cl) : ∀ t, t ≤ x.t.length → seatsTo x (t * (x.l.length + 1)) = (List.range t).flatMap (seatsAt x)
  | 0, _ => by rw [Nat.zero_mul]; rfl
  | t + 1, h => by rw [seatsTo_time x (by omega), seatsTo_eq x t (by omega), List.range_succ, List.flatMap_append]; simp
/-- by rising time, then by rising place -/
theorem seats_eq (x : Cl) : seats x = (List.range x.t.length).flatMap (seatsAt x) := seatsTo_eq x _ (Nat.le_refl _)
theorem seatsAt_len (x : Cl) (t : Nat) : (seatsAt x t).length = max 1 x.l.length := by
  unfold seatsAt
  split
  · simp only [List.length_cons, List.length_nil]; omega
  · rw [List.length_map, List.length_range]; omega
theorem seats_len (x : Cl) : (seats x).length = x.t.length * max 1 x.l.length := by
  rw [seats_eq]
  generalize x.t.length = n
  induction n with
  | zero => rw [Nat.zero_mul]; rfl
  | succ n ih => rw [List.range_succ, List.flatMap_append, List.length_append, ih, Nat.succ_mul]; simp [seatsAt_len]
theorem chp_inv (f : Se → Int × Int) (l : List Se) : ∀ k, k ≤ l.length → (k = 0 ∧ (chp f l k).1 = -1) ∨ (∃ m s, m < k ∧ (chp f l k).1 = (m : Nat) ∧ l[m]? = some s ∧ (chp f l k).2 = (f s).1 + (f s).2 ∧ (∀ i y, i < k → l[i]? = some y → (f s).1 + (f s).2 ≤ (f y).1 + (f y).2) ∧ ∀ i y, i < m → l[i]? = some y → (f s).1 + (f s).2 < (f y).1 + (f y).2)
  | 0, _ => .inl ⟨rfl, rfl⟩
  | k + 1, h => by
    have e : l[k]? = some l[k] := List.getElem?_eq_getElem (by omega)
    rw [chp_some e]
    refine .inr ?_
    rcases chp_inv f l k (by omega) with ⟨rfl, h0⟩ | ⟨m, s, hm, h1, h2, h3, h4, h5⟩
    · rw [if_pos (.inl (by omega))]
      refine ⟨0, _, by omega, rfl, e, rfl, fun i y hi hy => ?_, fun i y hi => absurd hi (Nat.not_lt_zero i)⟩
      obtain rfl : i = 0 := by omega
      rw [e] at hy
      rw [Option.some.inj hy]
      exact Int.le_refl _
    · by_cases hb : (f l[k]).1 < (chp f l k).2 - (f l[k]).2
      · rw [if_pos (.inr hb)]
        refine ⟨k, _, by omega, rfl, e, rfl, fun i y hi hy => ?_, fun i y hi hy => ?_⟩
        · rcases Nat.lt_or_ge i k with h' | h'
          · have := h4 i y h' hy; omega
          · obtain rfl : i = k := by omega
            rw [e] at hy
            rw [Option.some.inj hy]
            exact Int.le_refl _
        · have := h4 i y hi hy; omega
      · rw [if_neg (by omega)]
        refine ⟨m, s, by omega, h1, h2, h3, fun i y hi hy => ?_, h5⟩
        rcases Nat.lt_or_ge i k with h' | h'
        · exact h4 i y h' hy
        · obtain rfl : i = k := by omega
          rw [e] at hy
          rw [← Option.some.inj hy]
          omega
theorem cheap_none {x : Cl} (h : x.t.length = 0) : cheapS x = ⟨0, 0⟩ ∧ cheapN x = 0 := by
  have hl := seats_len x
  rw [h, Nat.zero_mul] at hl
  have hc : (cheap x).1 < 0 := by
    rcases chp_inv (fun s => (costT x s, costP x s)) (seats x) (seats x).length (Nat.le_refl _) with ⟨_, h0⟩ | ⟨m, s, hm, _⟩
    · unfold cheap; rw [h0]; omega
    · omega
  exact ⟨by unfold cheapS; rw [if_pos hc], by unfold cheapN; rw [if_pos hc]⟩
theorem cheap_some {x : Cl} (h : 0 < x.t.length) : ∃ m : Nat, (seats x)[m]? = some (cheapS x) ∧ cheapN x = costT x (cheapS x) + costP x (cheapS x) ∧ (∀ (i : Nat) y, (seats x)[i]? = some y → cheapN x ≤ costT x y + costP x y) ∧ ∀ (i : Nat) y, i < m → (seats x)[i]? = some y → cheapN x < costT x y + costP x y := by
  have hl : 0 < (seats x).length := by rw [seats_len]; exact Nat.mul_pos h (by omega)
  rcases chp_inv (fun s => (costT x s, costP x s)) (seats x) (seats x).length (Nat.le_refl _) with ⟨h0, _⟩ | ⟨m, s, hm, h1, h2, h3, h4, h5⟩
  · omega
  · have e1 : (cheap x).1 = (m : Nat) := h1
    have e2 : (cheap x).2 = costT x s + costP x s := h3
    have hc : ¬ (cheap x).1 < 0 := by omega
    have hS : cheapS x = s := by
      unfold cheapS
      rw [if_neg hc, e1, List.getD_eq_getElem?_getD, Int.toNat_natCast, h2]
      rfl
    have hN : cheapN x = costT x s + costP x s := by unfold cheapN; rw [if_neg hc, e2]
    rw [hS, hN]
    exact ⟨m, h2, rfl, fun i y hy => h4 i y (List.getElem?_eq_some_iff.1 hy).1 hy, h5⟩
end Go.Proofs.Ytcnpfchopjopeaa
