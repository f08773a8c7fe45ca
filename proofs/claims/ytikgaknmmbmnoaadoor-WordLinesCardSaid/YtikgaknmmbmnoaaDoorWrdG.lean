/- Mathematics of lines: the library's Split at one byte is a cut at that byte; a text that ends with a line feed. No program is spoken of here. -/
import Derived.Test.YtikgaknmmbmnoaaDoorWrdM
import Derived.Lib.Split
namespace Go.Proofs.YtikgaknmmbmnoaaDoor.Wrd

theorem index_one (c : UInt8) (l : List UInt8) : (Lib.index l [c] = -1 ∧ c ∉ l) ∨ ∃ a b, l = a ++ c :: b ∧ c ∉ a ∧ Lib.index l [c] = (a.length : Int) := by
  induction l with
  | nil => left; exact ⟨rfl, by simp⟩
  | cons x r ih =>
    by_cases hx : x = c
    · subst hx
      right
      refine ⟨[], r, rfl, by simp, ?_⟩
      unfold Lib.index
      rw [if_pos (by simp [List.isPrefixOf])]
      rfl
    · have hp : ¬ ([c].isPrefixOf (x :: r)) = true := by
        simp [List.isPrefixOf]
        exact fun e => hx e.symm
      rcases ih with ⟨h1, h2⟩ | ⟨a, b, h1, h2, h3⟩
      · left
        refine ⟨?_, ?_⟩
        · unfold Lib.index
          rw [if_neg hp, h1]
          rfl
        · intro hm
          rcases List.mem_cons.1 hm with e | e
          · exact hx e.symm
          · exact h2 e
      · right
        refine ⟨x :: a, b, by rw [h1]; rfl, ?_, ?_⟩
        · intro hm
          rcases List.mem_cons.1 hm with e | e
          · exact hx e.symm
          · exact h2 e
        · unfold Lib.index
          rw [if_neg hp, h3, if_neg (by rw [beq_iff_eq]; omega)]
          rw [List.length_cons]
          omega

theorem split_cut (c : UInt8) (n : Nat) : ∀ l : List UInt8, l.length ≤ n → Lib.splitK [c] 0 (Lib.count l [c]) l = cut c l ∧ (cut c l).length = Lib.count l [c] + 1 := by
  induction n with
  | zero =>
    intro l hl
    obtain rfl : l = [] := List.eq_nil_of_length_eq_zero (by omega)
    rw [Lib.count_miss rfl]
    exact ⟨rfl, rfl⟩
  | succ n ih =>
    intro l hl
    rcases index_one c l with ⟨h1, h2⟩ | ⟨a, b, h1, h2, h3⟩
    · rw [Lib.count_miss h1, cut_one c l h2]
      exact ⟨rfl, rfl⟩
    · have hd : l.drop (a.length + 1) = b := by
        rw [h1, ← List.singleton_append, ← List.append_assoc, List.drop_append_of_le_length (by simp)]
        simp
      have ht : l.take (a.length + 0) = a := by rw [h1]; simp
      have hlen : b.length ≤ n := by
        have := congrArg List.length h1
        rw [List.length_append, List.length_cons] at this
        omega
      obtain ⟨i1, i2⟩ := ih b hlen
      have hc := Lib.count_hit (s := l) (sub := [c]) (by simp) h3
      rw [show ([c] : List UInt8).length = 1 from rfl, hd] at hc
      have hcut : cut c l = a :: cut c b := by rw [h1]; exact cut_append c a b h2
      rw [hc, hcut, Nat.add_comm 1]
      refine ⟨?_, by rw [List.length_cons, i2]⟩
      unfold Lib.splitK
      rw [if_neg (by rw [h3, beq_iff_eq]; omega), h3]
      rw [show ((a.length : Int)).toNat = a.length by omega, ht, show ([c] : List UInt8).length = 1 from rfl, hd, i1]

theorem split_eq (c : UInt8) (l : List UInt8) : Lib.splitK [c] 0 (Lib.count l [c]) l = cut c l := (split_cut c l.length l (Nat.le_refl _)).1
theorem count_eq (c : UInt8) (l : List UInt8) : Lib.count l [c] + 1 = (cut c l).length := ((split_cut c l.length l (Nat.le_refl _)).2).symm

theorem snoc_of (l : List UInt8) (h : l ≠ []) : ∃ i x, l = i ++ [x] ∧ l.getLast? = some x ∧ l.dropLast = i := by
  refine ⟨l.dropLast, l.getLast h, (List.dropLast_concat_getLast h).symm, List.getLast?_eq_some_getLast h, rfl⟩
theorem suffix_one (i : List UInt8) (x c : UInt8) : Lib.hasSuffix (i ++ [x]) [c] = decide (x = c) ∧ (x = c → Lib.trimSuffix (i ++ [x]) [c] = i) := by
  have h : Lib.hasSuffix (i ++ [x]) [c] = decide (x = c) := by
    unfold Lib.hasSuffix
    rw [Bool.eq_iff_iff, List.isSuffixOf_iff_suffix, decide_eq_true_iff]
    constructor
    · rintro ⟨t, ht⟩
      have := congrArg List.getLast? ht
      simp at this
      exact this.symm
    · rintro rfl
      exact ⟨i, rfl⟩
  refine ⟨h, fun e => ?_⟩
  unfold Lib.trimSuffix
  rw [h, if_pos (by simpa using e)]
  simp
theorem lns_nil : lns [] = ([], 0) := rfl
theorem lns_snoc (i : List UInt8) (x : UInt8) : lns (i ++ [x]) = if x = 10 then (cut 10 i, 0) else ([], 3) := by
  unfold lns
  rw [if_neg (by simp), List.getLast?_concat, List.dropLast_concat]
  by_cases h : x = 10
  · rw [if_pos (by rw [h]), if_pos h]
  · rw [if_neg (by intro e; injection e with e; exact h e), if_neg h]
theorem lns_small (l : List UInt8) : (lns l).1.length ≤ l.length + 1 := by
  unfold lns
  split
  · simp
  · split
    · have := cut_len 10 l.dropLast
      rw [List.length_dropLast] at this
      show (cut 10 l.dropLast).length ≤ _
      omega
    · simp
theorem tl_take (ls : List (List UInt8)) (k : Nat) : (tl (ls.take k)).length ≤ (tl ls).length := by
  have : tl ls = tl (ls.take k) ++ tl (ls.drop k) := by
    unfold tl
    rw [← List.flatten_append, ← List.map_append, List.take_append_drop]
  rw [this, List.length_append]
  omega
end Go.Proofs.YtikgaknmmbmnoaaDoor.Wrd
