/- Mathematics of layer 9 (when): the moments of a day, one behind the other. Nothing of a program is spoken of here. -/
import Derived.Test.YteldcaebbmaemaaWhnM
namespace Go.Proofs.Yteldcaebbmaemaa.Whn

theorem upto_skip {g : Gr} {x : Wh} {k : Nat} (k' : Nat) (h : k ≤ k') (hf : ∀ m : Nat, k ≤ m → m < k' → onM g x (m : Int) = false) : upto g x k' = upto g x k := by
  induction k' with
  | zero =>
    obtain rfl : k = 0 := by omega
    rfl
  | succ n ih =>
    by_cases e : k = n + 1
    · subst e; rfl
    · rw [upto_succ, hf n (by omega) (by omega), if_neg (by decide), List.append_nil]
      exact ih (by omega) (fun m h1 h2 => hf m h1 (by omega))
/-- the number of a day's first moment -/
def base (D S i j : Nat) : Nat := (i * D + j) * S
theorem base_day (D S i j : Nat) : base D S i (j + 1) = base D S i j + S := by
  unfold base
  rw [← Nat.add_assoc, Nat.succ_mul]
theorem base_week (D S i : Nat) : base D S (i + 1) 0 = base D S i D := by
  unfold base
  rw [Nat.succ_mul, Nat.add_zero]
theorem base_zero (D S : Nat) : base D S 0 0 = 0 := by unfold base; rw [Nat.zero_mul, Nat.zero_add, Nat.zero_mul]
theorem base_num {g : Gr} {D S : Nat} (hD : g.d = D) (hS : g.s = S) (i j : Nat) (c : Nat) : num g i j c = ((base D S i j + c : Nat) : Int) := by
  unfold num base
  rw [hD, hS]
  simp only [Int.natCast_add, Int.natCast_mul]
theorem onM_base {g : Gr} {x : Wh} (hr : right g x = true) {D S : Nat} (hD : g.d = D) (hS : g.s = S) {i j c : Nat} (hi : (i : Int) < g.w) (hj : j < D) (hc : c < S) :
    onM g x ((base D S i j + c : Nat) : Int) = (x.w.testBit i && (x.d.testBit j && decide (x.s ≤ c ∧ (c : Int) < x.s + x.l))) := by
  have hg := right_grid hr
  obtain ⟨g1, g2, g3, g4, g5, g6⟩ := (rgrid_iff g).1 hg
  have hin : inG g i j c = true := by
    unfold inG
    rw [Bool.and_eq_true, decide_eq_true_iff]
    exact ⟨hg, by omega⟩
  obtain ⟨p1, p2, p3⟩ := num_parts hin
  unfold onM
  rw [← base_num hD hS, p1, p2, p3]
  unfold on
  rw [right_tame hr, Bool.true_and, decide_eq_true (show 0 ≤ (i : Int) ∧ (i : Int) ≤ 31 ∧ 0 ≤ (j : Int) ∧ (j : Int) ≤ 7 by omega), Bool.true_and, Int.toNat_natCast, Int.toNat_natCast]
theorem slots_le {g : Gr} {x : Wh} (hr : right g x = true) {S s l : Nat} (hS : g.s = S) (hs : x.s = s) (hl : x.l = l) : s + l ≤ S := by
  obtain ⟨_, _, _, a4, a5, a6, _⟩ := (right_iff g x).1 hr
  omega
section
variable {g : Gr} {x : Wh} (hr : right g x = true) {D S s l : Nat} (hD : g.d = D) (hS : g.s = S) (hs : x.s = s) (hl : x.l = l) {i j : Nat} (hi : (i : Int) < g.w) (hj : j < D)
include hr hD hS hi hj
theorem day_off (hb : (x.w.testBit i && x.d.testBit j) = false) : upto g x (base D S i (j + 1)) = upto g x (base D S i j) := by
  rw [base_day]
  refine upto_skip _ (by omega) fun m h1 h2 => ?_
  obtain ⟨c, rfl⟩ : ∃ c, m = base D S i j + c := ⟨m - base D S i j, by omega⟩
  rw [onM_base hr hD hS hi hj (by omega), ← Bool.and_assoc, hb, Bool.false_and]
include hs hl
theorem day_pre : upto g x (base D S i j + s) = upto g x (base D S i j) := by
  have := slots_le hr hS hs hl
  refine upto_skip _ (by omega) fun m h1 h2 => ?_
  obtain ⟨c, rfl⟩ : ∃ c, m = base D S i j + c := ⟨m - base D S i j, by omega⟩
  rw [onM_base hr hD hS hi hj (by omega), decide_eq_false (by omega), Bool.and_false, Bool.and_false]
theorem day_in (hb : (x.w.testBit i && x.d.testBit j) = true) {c : Nat} (hc : c < l) : upto g x (base D S i j + s + (c + 1)) = upto g x (base D S i j + s + c) ++ [((base D S i j + s + c : Nat) : Int)] := by
  have := slots_le hr hS hs hl
  have h := onM_base hr hD hS hi hj (c := s + c) (by omega)
  rw [decide_eq_true (by omega), Bool.and_true, hb, ← Nat.add_assoc] at h
  rw [← Nat.add_assoc, upto_succ, h, if_pos rfl]
theorem day_post : upto g x (base D S i (j + 1)) = upto g x (base D S i j + s + l) := by
  have := slots_le hr hS hs hl
  rw [base_day]
  refine upto_skip _ (by omega) fun m h1 h2 => ?_
  obtain ⟨c, rfl⟩ : ∃ c, m = base D S i j + c := ⟨m - base D S i j, by omega⟩
  rw [onM_base hr hD hS hi hj (by omega), decide_eq_false (by omega), Bool.and_false, Bool.and_false]
end
end Go.Proofs.Yteldcaebbmaemaa.Whn
