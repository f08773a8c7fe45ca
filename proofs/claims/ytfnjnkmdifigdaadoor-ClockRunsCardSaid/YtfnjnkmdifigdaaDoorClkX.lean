/- Mathematics of layer 10 (clock): how the program reads texts of runs, of weeks, of times, part by part. Nothing of a program is spoken of here. -/
import Derived.Test.YtfnjnkmdifigdaaDoorClkW
import Derived.Lib.IndexMore
namespace Go.Proofs.YtfnjnkmdifigdaaDoor.Clk

theorem index_one (c : UInt8) (l : List UInt8) : (Lib.index l [c] = -1 ∧ c ∉ l) ∨ ∃ a b, l = a ++ c :: b ∧ c ∉ a ∧ Lib.index l [c] = (a.length : Int) := by
  induction l with
  | nil => left; exact ⟨rfl, by simp⟩
  | cons x r ih =>
    by_cases hx : x = c
    · subst hx
      right
      refine ⟨[], r, rfl, by simp, ?_⟩
      unfold Lib.index
      rw [if_pos (by simp [List.isPrefixOf])]
      rfl
    · have hp : ¬ ([c].isPrefixOf (x :: r)) = true := by
        simp [List.isPrefixOf]
        exact fun e => hx e.symm
      rcases ih with ⟨h1, h2⟩ | ⟨a, b, h1, h2, h3⟩
      · left
        refine ⟨?_, ?_⟩
        · unfold Lib.index
          rw [if_neg hp, h1]
          rfl
        · intro hm
          rcases List.mem_cons.1 hm with e | e
          · exact hx e.symm
          · exact h2 e
      · right
        refine ⟨x :: a, b, by rw [h1]; rfl, ?_, ?_⟩
        · intro hm
          rcases List.mem_cons.1 hm with e | e
          · exact hx e.symm
          · exact h2 e
        · unfold Lib.index
          rw [if_neg hp, h3, if_neg (by rw [beq_iff_eq]; omega)]
          rw [List.length_cons]
          omega

theorem lib_cut (c : UInt8) (l : List UInt8) : (c ∉ l ∧ Lib.cut l [c] = (l, [], false)) ∨ ∃ a b, l = a ++ c :: b ∧ c ∉ a ∧ Lib.cut l [c] = (a, b, true) := by
  rcases index_one c l with ⟨h1, h2⟩ | ⟨a, b, h1, h2, h3⟩
  · left
    refine ⟨h2, ?_⟩
    unfold Lib.cut
    rw [h1, if_neg (by decide)]
  · right
    refine ⟨a, b, h1, h2, ?_⟩
    unfold Lib.cut
    rw [h3, if_pos (by omega), Int.toNat_natCast, h1]
    congr 1
    · simp
    · congr 1
      have e : a ++ c :: b = (a ++ [c]) ++ b := by simp
      rw [e, List.drop_append_of_le_length (by simp)]
      simp
/-! ### numbers -/
theorem within_num {s : List UInt8} {n : Nat} (h : num s = some n) : Dig.within s 0 99 = ((n : Int), 0) := by
  obtain ⟨h1, h2⟩ := num_back h
  have hw : Dig.wi (n : Int) = s := by
    unfold Dig.wi
    rw [if_neg (by omega), Int.natAbs_natCast, h1]
  have := Dig.pa_wi (n : Int) (by omega) (by omega)
  rw [hw] at this
  unfold Dig.within
  rw [this]
  simp only [ne_eq, not_true_eq_false, if_false]
  rw [if_neg (by omega)]
theorem within_none {s : List UInt8} (h : num s = none) : (Dig.within s 0 99).2 ≠ 0 := by
  intro h0
  unfold Dig.within at h0
  by_cases h1 : (Dig.pa s).2 ≠ 0
  · rw [if_pos h1] at h0
    exact h1 h0
  · rw [if_neg h1] at h0
    by_cases h2 : (Dig.pa s).1 < 0 ∨ 99 < (Dig.pa s).1
    · rw [if_pos h2] at h0
      cases h0
    · obtain ⟨b1, _, _⟩ := Dig.pa_back s (by omega)
      unfold Dig.wi at b1
      rw [if_neg (by omega)] at b1
      have := num_wd (n := (Dig.pa s).1.natAbs) (by omega)
      rw [b1, h] at this
      cases this
theorem num_free {s : List UInt8} {c : UInt8} (hc : Dig.isD c = false) (h : c ∈ s) : num s = none := by
  cases hn : num s with
  | none => rfl
  | some n =>
    obtain ⟨h1, _⟩ := num_back hn
    rw [← h1] at h
    exact absurd h (wd_free hc)
/-! ### a run -/
theorem rp_one {s : List UInt8} (h : (45 : UInt8) ∉ s) : rp s = match num s with
    | some n => some (n, n)
    | none => none := by
  unfold rp
  rw [Wrd.cut_one 45 s h]
  cases hn : num s <;> simp only [hn]
theorem rp_two {a b : List UInt8} (h : (45 : UInt8) ∉ a) : rp (a ++ 45 :: b) = match num a, num b with
    | some n, some m => if n < m then some (n, m) else none
    | _, _ => none := by
  unfold rp
  rw [Wrd.cut_append 45 a b h]
  by_cases hb : (45 : UInt8) ∈ b
  · rw [num_free (by decide) hb]
    have hne := Wrd.cut_ne 45 b
    have hi := inter_cut 45 b
    have hfr := cut_free 45 b
    cases hc : Wrd.cut 45 b with
    | nil => exact absurd hc hne
    | cons x y =>
      cases y with
      | nil =>
        rw [hc] at hi
        have := hfr x (by rw [hc]; exact List.mem_cons_self ..)
        rw [show [45].intercalate [x] = x by simp [List.intercalate]] at hi
        rw [hi] at this
        exact absurd hb this
      | cons y z => cases num a <;> rfl
  · rw [Wrd.cut_one 45 b hb]
    cases ha : num a <;> cases hb2 : num b <;> simp only [ha, hb2]
/-! ### rows of runs, part by part -/
def ahd (z : Int) (l : List (Nat × Nat)) : Int := match l.getLast? with
  | none => z
  | some q => (q.2 : Int) + 2
/-- the number ahead -/
def ah (l : List (Nat × Nat)) : Int := ahd 0 l - 2
theorem ah_nil : ah [] = -2 := rfl
theorem ah_snoc (l : List (Nat × Nat)) (p : Nat × Nat) : ah (l ++ [p]) = (p.2 : Int) := by
  unfold ah ahd
  rw [List.getLast?_concat]
  simp only
  omega
theorem rps_snoc {a : List (List UInt8)} {l : List (Nat × Nat)} {s : List UInt8} {p : Nat × Nat} (h : rps a = some l) (hp : rp s = some p) : rps (a ++ [s]) = some (l ++ [p]) := by
  induction a generalizing l with
  | nil =>
    rw [rps] at h
    injection h with h
    subst h
    simp only [List.nil_append, rps, hp]
  | cons b a ih =>
    rw [rps] at h
    split at h
    · rename_i q l' hq hl
      injection h with h
      subst h
      rw [List.cons_append, rps, hq, ih hl]
      rfl
    · cases h
theorem rps_bad {a : List (List UInt8)} {s : List UInt8} {r : List (List UInt8)} (hp : rp s = none) : rps (a ++ s :: r) = none := by
  induction a with
  | nil => rw [List.nil_append, rps, hp]
  | cons b a ih =>
    rw [List.cons_append, rps, ih]
    cases rp b <;> rfl
theorem ahd_cons (z : Int) (q : Nat × Nat) (l : List (Nat × Nat)) : ahd z (q :: l) = ahd ((q.2 : Int) + 2) l := by
  unfold ahd
  cases hl : l.getLast? with
  | none =>
    have : l = [] := List.getLast?_eq_none_iff.1 hl
    subst this
    rfl
  | some y =>
    have : (q :: l).getLast? = some y := by
      cases l with
      | nil => cases hl
      | cons x l => rw [List.getLast?_cons_cons, hl]
    rw [this]
theorem risb_app (m : Nat) (l : List (Nat × Nat)) (p : Nat × Nat) (r : List (Nat × Nat)) : risb m (l ++ p :: r) = (risb m l && decide (ahd m l ≤ (p.1 : Int)) && risb (p.2 + 2) r) := by
  induction l generalizing m with
  | nil =>
    rw [List.nil_append, risb, risb, Bool.true_and]
    have : decide (m ≤ p.1) = decide (ahd (m : Int) [] ≤ (p.1 : Int)) := by
      rw [decide_eq_decide]
      show m ≤ p.1 ↔ (m : Int) ≤ (p.1 : Int)
      omega
    rw [this]
  | cons q l ih =>
    rw [List.cons_append, risb, ih, risb, ahd_cons, Bool.and_assoc, Bool.and_assoc, Bool.and_assoc]
    rfl
theorem risb_snoc {l : List (Nat × Nat)} {p : Nat × Nat} (h : risb 0 l = true) (hp : ah l + 2 ≤ (p.1 : Int)) : risb 0 (l ++ [p]) = true := by
  unfold ah at hp
  rw [risb_app, h, Bool.true_and, risb, Bool.and_true, decide_eq_true_iff]
  show ahd ((0 : Nat) : Int) l ≤ _
  simp only [Int.natCast_zero] at *
  omega
theorem risb_bad {l : List (Nat × Nat)} {p : Nat × Nat} (r : List (Nat × Nat)) (hp : (p.1 : Int) < ah l + 2) : risb 0 (l ++ p :: r) = false := by
  unfold ah at hp
  have : decide (ahd ((0 : Nat) : Int) l ≤ (p.1 : Int)) = false := by
    rw [decide_eq_false_iff_not]
    simp only [Int.natCast_zero] at *
    omega
  rw [risb_app, this, Bool.and_false, Bool.false_and]
/-- what is known of a text behind some of its parts: their runs -/
structure Got (s : List UInt8) (a : List (List UInt8)) (l : List (Nat × Nat)) : Prop where
  r : rps a = some l
  b : risb 0 l = true
theorem Got.start (s : List UInt8) : Got s [] [] := ⟨rfl, rfl⟩
theorem Got.next {s t : List UInt8} {a : List (List UInt8)} {l : List (Nat × Nat)} {p : Nat × Nat} (h : Got s a l) (hp : rp t = some p) (hr : ah l + 2 ≤ (p.1 : Int)) : Got s (a ++ [t]) (l ++ [p]) := ⟨rps_snoc h.r hp, risb_snoc h.b hr⟩
theorem rows_bad1 {s t : List UInt8} {a r : List (List UInt8)} (hc : Wrd.cut 44 s = a ++ t :: r) (hp : rp t = none) : pwk s = (0, 3) := by
  unfold pwk rows
  rw [hc, rps_bad hp]
theorem rps_app {a : List (List UInt8)} {l : List (Nat × Nat)} {r : List (List UInt8)} (h : rps a = some l) : rps (a ++ r) = match rps r with
    | some m => some (l ++ m)
    | none => none := by
  induction a generalizing l with
  | nil =>
    rw [rps] at h
    injection h with h
    subst h
    simp only [List.nil_append]
    cases rps r <;> rfl
  | cons b a ih =>
    rw [rps] at h
    split at h
    · rename_i q l' hq hl
      injection h with h
      subst h
      rw [List.cons_append, rps, hq, ih hl]
      cases rps r <;> rfl
    · cases h
theorem rows_bad2 {s t : List UInt8} {a r : List (List UInt8)} {l : List (Nat × Nat)} {p : Nat × Nat} (hc : Wrd.cut 44 s = a ++ t :: r) (h : Got s a l) (hp : rp t = some p) (hr : (p.1 : Int) < ah l + 2) : pwk s = (0, 3) := by
  have e : rows s = none := by
    unfold rows
    rw [hc, rps_app h.r, rps, hp]
    cases hz : rps r with
    | none => rfl
    | some m =>
      simp only [risb_bad m hr]
      rfl
  unfold pwk
  rw [e]
theorem pwk_all {s : List UInt8} {a : List (List UInt8)} {l : List (Nat × Nat)} (hc : Wrd.cut 44 s = a) (h : Got s a l) : pwk s = if l.all (fun p => decide (1 ≤ p.1 ∧ p.2 ≤ 20)) = true then (wof l, 0) else (0, 6) := by
  have e : rows s = some l := by
    unfold rows
    rw [hc, h.r]
    simp only [h.b, if_true]
  unfold pwk
  rw [e]
end Go.Proofs.YtfnjnkmdifigdaaDoor.Clk
