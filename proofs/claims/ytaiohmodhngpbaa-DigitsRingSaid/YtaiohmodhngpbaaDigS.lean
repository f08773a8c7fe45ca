/- Contracts of the answers of the document on layer 1: what Mul returns, for every two numbers. -/
import Derived.Test.YtaiohmodhngpbaaDigR
namespace Go.Proofs.Ytaiohmodhngpbaa
open Go.RowKit

theorem div_lt (x y : Nat) (M : Nat) : ((M : Int) / (x : Int) < (y : Int)) ↔ M / x < y := by
  rw [← Int.natCast_ediv]; exact Int.ofNat_lt
theorem div_lt8 (x y : Nat) : ((9223372036854775808 : Int) / (x : Int) < (y : Int)) ↔ 9223372036854775808 / x < y := div_lt x y 9223372036854775808
theorem div_lt7 (x y : Nat) : ((9223372036854775807 : Int) / (x : Int) < (y : Int)) ↔ 9223372036854775807 / x < y := div_lt x y 9223372036854775807

def MulSaid (a b : Int) (w : World) : Prop := Calls Try.prog 21 #[.int .i64 a, .int .i64 b] w fun e w' => e = .returned (.tuple #[.int .i64 (Dig.fits (a * b)).1, .bool (Dig.fits (a * b)).2]) ∧ w = w'

theorem r_Mul_same (a b : Int) (x y : Nat) (w : World) (Hsa : Hid (∀ w, Calls Try.prog 31 #[.int .i64 a] w fun e w' => e = .returned (.int .u64 (x : Int)) ∧ w = w')) (Hsb : Hid (∀ w, Calls Try.prog 31 #[.int .i64 b] w fun e w' => e = .returned (.int .u64 (y : Int)) ∧ w = w'))
    (h1 : Hid (x = 0 ∨ ¬ 9223372036854775807 / x < y → Dig.fits (a * b) = (a * b, true) ∧ -9223372036854775808 ≤ a * b ∧ a * b ≤ 9223372036854775807)) (h2 : Hid (0 < x → 9223372036854775807 / x < y → Dig.fits (a * b) = (0, false)))
    (hd : (decide (a < 0) == decide (b < 0)) = true) : MulSaid a b w := by
  unfold MulSaid
  by_cases hx : 0 < x
  · have hx' : ((x : Int) != 0) = true := by rw [bne_iff_ne]; omega
    by_cases hov : (9223372036854775807 : Int) / (x : Int) < (y : Int)
    · rw [h2.out hx ((div_lt7 x y).1 hov)]
      clear h1 h2
      go_enter Try.func21, Try.ntmps21
      go_wp2_with (go_at_call 31; first | (with_reducible refine (Hsa.out _).mono ?_; rintro e w' ⟨rfl, rfl⟩) | (with_reducible refine (Hsb.out _).mono ?_; rintro e w' ⟨rfl, rfl⟩))
      go_ret2
      exact ⟨rfl, rfl⟩
    · obtain ⟨e, l1, l2⟩ := h1.out (.inr fun e => hov ((div_lt7 x y).2 e))
      rw [e]
      clear h1 h2 e
      go_enter Try.func21, Try.ntmps21
      go_wp2_with (go_at_call 31; first | (with_reducible refine (Hsa.out _).mono ?_; rintro e w' ⟨rfl, rfl⟩) | (with_reducible refine (Hsb.out _).mono ?_; rintro e w' ⟨rfl, rfl⟩))
      go_ret2
      exact ⟨rfl, rfl⟩
  · obtain rfl : x = 0 := by omega
    obtain ⟨e, l1, l2⟩ := h1.out (.inl rfl)
    rw [e]
    clear h1 h2 e
    go_enter Try.func21, Try.ntmps21
    go_wp2_with (go_at_call 31; first | (with_reducible refine (Hsa.out _).mono ?_; rintro e w' ⟨rfl, rfl⟩) | (with_reducible refine (Hsb.out _).mono ?_; rintro e w' ⟨rfl, rfl⟩))
    go_ret2
    exact ⟨rfl, rfl⟩

theorem r_Mul_other (a b : Int) (x y : Nat) (w : World) (Hsa : Hid (∀ w, Calls Try.prog 31 #[.int .i64 a] w fun e w' => e = .returned (.int .u64 (x : Int)) ∧ w = w')) (Hsb : Hid (∀ w, Calls Try.prog 31 #[.int .i64 b] w fun e w' => e = .returned (.int .u64 (y : Int)) ∧ w = w'))
    (h1 : Hid (x = 0 ∨ ¬ 9223372036854775808 / x < y → Dig.fits (a * b) = (a * b, true) ∧ -9223372036854775808 ≤ a * b ∧ a * b ≤ 9223372036854775807)) (h2 : Hid (0 < x → 9223372036854775808 / x < y → Dig.fits (a * b) = (0, false)))
    (hd : (decide (a < 0) == decide (b < 0)) = false) : MulSaid a b w := by
  unfold MulSaid
  by_cases hx : 0 < x
  · have hx' : ((x : Int) != 0) = true := by rw [bne_iff_ne]; omega
    by_cases hov : (9223372036854775808 : Int) / (x : Int) < (y : Int)
    · rw [h2.out hx ((div_lt8 x y).1 hov)]
      clear h1 h2
      go_enter Try.func21, Try.ntmps21
      go_wp2_with (go_at_call 31; first | (with_reducible refine (Hsa.out _).mono ?_; rintro e w' ⟨rfl, rfl⟩) | (with_reducible refine (Hsb.out _).mono ?_; rintro e w' ⟨rfl, rfl⟩))
      go_ret2
      exact ⟨rfl, rfl⟩
    · obtain ⟨e, l1, l2⟩ := h1.out (.inr fun e => hov ((div_lt8 x y).2 e))
      rw [e]
      clear h1 h2 e
      go_enter Try.func21, Try.ntmps21
      go_wp2_with (go_at_call 31; first | (with_reducible refine (Hsa.out _).mono ?_; rintro e w' ⟨rfl, rfl⟩) | (with_reducible refine (Hsb.out _).mono ?_; rintro e w' ⟨rfl, rfl⟩))
      go_ret2
      exact ⟨rfl, rfl⟩
  · obtain rfl : x = 0 := by omega
    obtain ⟨e, l1, l2⟩ := h1.out (.inl rfl)
    rw [e]
    clear h1 h2 e
    go_enter Try.func21, Try.ntmps21
    go_wp2_with (go_at_call 31; first | (with_reducible refine (Hsa.out _).mono ?_; rintro e w' ⟨rfl, rfl⟩) | (with_reducible refine (Hsb.out _).mono ?_; rintro e w' ⟨rfl, rfl⟩))
    go_ret2
    exact ⟨rfl, rfl⟩

theorem r_Mul (a b : Int) (a1 : -9223372036854775808 ≤ a) (a2 : a ≤ 9223372036854775807) (b1 : -9223372036854775808 ≤ b) (b2 : b ≤ 9223372036854775807) (w : World) : MulSaid a b w := by
  have Hsa := hid (fun w => r_Size a a1 a2 w)
  have Hsb := hid (fun w => r_Size b b1 b2 w)
  have hM := Dig.fits_mul_div a b a.natAbs b.natAbs _ rfl rfl rfl
  cases hd : (decide (a < 0) == decide (b < 0)) with
  | true =>
    rw [bne_flip, hd, if_neg (by simp)] at hM
    exact r_Mul_same a b _ _ w Hsa Hsb hM.1 hM.2 hd
  | false =>
    rw [bne_flip, hd, if_pos (by simp)] at hM
    exact r_Mul_other a b _ _ w Hsa Hsb hM.1 hM.2 hd
theorem formed_cases (s : ByteArray) : Dig.formed s.data.toList = (s.data.toList.all Dig.isD && (decide (s.size = 1) || (decide (1 < s.size) && decide (s.data.toList.head? ≠ some 48)))) := by
  unfold Dig.formed; rw [data_len]

theorem head_of (s : ByteArray) (hp : 0 < s.size) : s.data.toList.head? = some s[0] := by
  rw [← data_get s 0 hp]; exact List.head?_eq_getElem? .. ▸ (List.getElem?_eq_getElem _)

theorem r_form (s : ByteArray) (hs : s.size ≤ maxLen) (w : World) :
    Calls Try.prog 29 #[.string s] w fun e w' => e = .returned (.bool (Dig.formed s.data.toList)) ∧ w = w' := by
  unfold maxLen at hs
  have Hlen := hid (data_len s)
  have Hz := hid (formed_cases s)
  go_enter Try.func29, Try.ntmps29
  go_wp2
  go_loop [3] (fun i => ∃ k : Nat, k ≤ s.size ∧ i = .int .i64 k ∧ Hid ((s.data.toList.take k).all Dig.isD = true)) (fun i => s.size - (intOf i).toNat)
  case atStart => exact ⟨0, Nat.zero_le _, rfl, rfl⟩
  case round =>
    obtain ⟨k, hk, rfl, hall⟩ := hrel
    by_cases hlt : k < s.size
    · have hst : Hid ((s.data.toList.take (k + 1)).all Dig.isD = ((s.data.toList.take k).all Dig.isD && Dig.isD s[k])) := by
        show List.all _ _ = _
        rw [Dig.take_snoc _ _ (by rw [Hlen.out]; exact hlt), List.all_append, data_get s k hlt]; simp
      have hno : Hid (¬ (48 ≤ (s[k].toNat : Int) ∧ (s[k].toNat : Int) ≤ 57) → Dig.formed s.data.toList = false) := by
        intro h
        rw [Hz.out]
        have : s.data.toList.all Dig.isD = false := by
          rw [Bool.eq_false_iff]
          intro e
          have := List.all_eq_true.1 e s[k] (by rw [← data_get s k hlt]; exact List.getElem_mem _)
          exact h ((isD_iff _).1 this)
        rw [this]; rfl
      by_cases c1 : (s[k].toNat : Int) < 48
      · go_wp2
        go_ret
        exact ⟨ret_b (hno.out (by omega)).symm, rfl⟩
      · by_cases c2 : (57 : Int) < (s[k].toNat : Int)
        · go_wp2
          go_ret
          exact ⟨ret_b (hno.out (by omega)).symm, rfl⟩
        · go_wp2
          go_round
          case rel => exact ⟨k + 1, by omega, by go_num, by show List.all _ _ = _; rw [hst.out, hall.out, (isD_iff _).2 (by omega)]; rfl⟩
          case measure => simp [intOf]; omega
    · have hv : Hid (Dig.formed s.data.toList = (decide (s.size = 1) || (decide (1 < s.size) && decide (s.data.toList.head? ≠ some 48)))) := by
        show Dig.formed _ = _
        rw [Hz.out, show s.data.toList.all Dig.isD = true from by rw [← hall.out, List.take_of_length_le (by rw [Hlen.out]; omega)]]
        rfl
      by_cases h1 : ((s.size : Int) == 1) = true
      · go_wp2
        go_ret
        refine ⟨ret_b ?_, rfl⟩
        have : s.size = 1 := by have := beq_iff_eq.1 h1; omega
        rw [hv.out, this]; rfl
      · have h1' : ((s.size : Int) == 1) = false := by simpa using h1
        have n1 : ¬ s.size = 1 := fun e => h1 (beq_iff_eq.2 (by omega))
        clear h1
        by_cases h2 : 1 < s.size
        · have hp : 0 < s.size := by omega
          have Hh := hid (head_of s hp)
          by_cases h3 : (s[0].toNat : Int) = 48
          · have h3' : ((s[0].toNat : Int) != 48) = false := by rw [h3]; rfl
            have H3 := hid h3
            clear h3
            go_wp2
            go_ret
            refine ⟨ret_b ?_, rfl⟩
            rw [hv.out, Hh.out, (Dig.toNat_48 s[0]).2 (by have := H3.out; omega)]
            simp [n1]
          · have h3' : ((s[0].toNat : Int) != 48) = true := by rw [bne_iff_ne]; exact h3
            go_wp2
            go_ret
            refine ⟨ret_b ?_, rfl⟩
            have : s[0] ≠ 48 := fun e => h3 (by have := (Dig.toNat_48 _).1 e; omega)
            rw [hv.out, Hh.out]
            simp [h2, this]
        · go_wp2
          go_ret
          refine ⟨ret_b ?_, rfl⟩
          rw [hv.out]
          simp [n1, h2]
end Go.Proofs.Ytaiohmodhngpbaa
