/- Contracts of layer 1 (digits): what Add and Mul return, for every two numbers. -/
import Derived.Test.YtaiohmodhngpbaaDigC
namespace Go.Proofs.Ytaiohmodhngpbaa
open Go.RowKit

theorem m_in (x y : Nat) (hx : x < 18446744073709551616) (hy : y < 18446744073709551616) (h : x * y < 18446744073709551616) (w : World) :
    Calls Try.prog 27 #[.int .u64 x, .int .u64 y] w fun e w' => e = .returned (.tuple #[.int .u64 0, .int .u64 ((x * y : Nat) : Int)]) ∧ w = w' := by
  refine (Try.bits_Mul64 x y hx hy w).mono ?_
  rintro e w' ⟨rfl, rfl⟩
  rw [Nat.div_eq_of_lt h, Nat.mod_eq_of_lt h]
  exact ⟨rfl, rfl⟩

theorem m_out (x y : Nat) (hx : x < 18446744073709551616) (hy : y < 18446744073709551616) (h : 18446744073709551616 ≤ x * y) (w : World) :
    Calls Try.prog 27 #[.int .u64 x, .int .u64 y] w fun e w' => ∃ a b : Nat, 1 ≤ a ∧ e = .returned (.tuple #[.int .u64 a, .int .u64 b]) ∧ w = w' := by
  refine (Try.bits_Mul64 x y hx hy w).mono ?_
  rintro e w' ⟨rfl, rfl⟩
  exact ⟨_, _, by omega, rfl, rfl⟩

theorem d_Add (a b : Int) (a1 : -9223372036854775808 ≤ a) (a2 : a ≤ 9223372036854775807) (b1 : -9223372036854775808 ≤ b) (b2 : b ≤ 9223372036854775807) (w : World) :
    Calls Try.prog 18 #[.int .i64 a, .int .i64 b] w fun e w' => e = .returned (.tuple #[.int .i64 (Dig.fits (a + b)).1, .bool (Dig.fits (a + b)).2]) ∧ w = w' := by
  by_cases h : -9223372036854775808 ≤ a + b ∧ a + b ≤ 9223372036854775807
  · rw [Dig.fits_in _ h]
    obtain ⟨h1, h2⟩ := h
    by_cases hb : b < 0
    · have hd : decide (a + b < a) = true := by rw [decide_eq_true_iff]; omega
      go_enter Try.func18, Try.ntmps18
      go_wp2
      go_ret2
      exact ⟨rfl, rfl⟩
    · have hd : decide (a + b < a) = false := by rw [decide_eq_false_iff_not]; omega
      go_enter Try.func18, Try.ntmps18
      go_wp2
      go_ret2
      exact ⟨rfl, rfl⟩
  · rw [Dig.fits_out _ h]
    by_cases hb : b < 0
    · have hd : decide (wrap64 (a + b) < a) = false := by rw [decide_eq_false_iff_not]; unfold wrap64; omega
      clear h
      go_enter Try.func18, Try.ntmps18
      go_wp2
      go_ret2
      exact ⟨rfl, rfl⟩
    · have hd : wrap64 (a + b) < a := by unfold wrap64; omega
      clear h
      go_enter Try.func18, Try.ntmps18
      go_wp2
      go_ret2
      exact ⟨rfl, rfl⟩

theorem bne_flip (x y : Bool) : (x != y) = !(x == y) := by cases x <;> cases y <;> rfl
theorem d_Mul (a b : Int) (a1 : -9223372036854775808 ≤ a) (a2 : a ≤ 9223372036854775807) (b1 : -9223372036854775808 ≤ b) (b2 : b ≤ 9223372036854775807) (w : World) :
    Calls Try.prog 20 #[.int .i64 a, .int .i64 b] w fun e w' => e = .returned (.tuple #[.int .i64 (Dig.fits (a * b)).1, .bool (Dig.fits (a * b)).2]) ∧ w = w' := by
  have ha : a.natAbs < 18446744073709551616 := by omega
  have hb : b.natAbs < 18446744073709551616 := by omega
  have Hsa := hid (fun w => d_sizeOf a a1 a2 w)
  have Hsb := hid (fun w => d_sizeOf b b1 b2 w)
  by_cases h : a.natAbs * b.natAbs < 18446744073709551616
  · have Hm := hid (fun w => m_in _ _ ha hb h w)
    have hs := fun w => d_signed _ h (decide (a < 0) != decide (b < 0)) w
    rw [← Dig.sgn_mul a b h]
    generalize Dig.sgn (a.natAbs * b.natAbs) (decide (a < 0) != decide (b < 0)) = q at *
    generalize a.natAbs * b.natAbs = n at *
    obtain ⟨m, ok⟩ := q
    generalize a.natAbs = x at *
    generalize b.natAbs = y at *
    clear h ha hb
    rw [bne_flip] at hs
    have Hs := hid hs
    clear hs
    go_enter Try.func20, Try.ntmps20
    go_wp2_with fail
    refine (Hsa.out _).mono ?_
    rintro e w' ⟨rfl, rfl⟩
    go_wp2_with fail
    refine (Hsb.out _).mono ?_
    rintro e w' ⟨rfl, rfl⟩
    go_wp2_with fail
    refine (Hm.out _).mono ?_
    rintro e w' ⟨rfl, rfl⟩
    go_wp2_with fail
    with_reducible refine (Hs.out _).mono ?_
    rintro e w' ⟨rfl, rfl⟩
    go_wp2_with fail
    go_ret2
    exact ⟨rfl, rfl⟩
  · have Hm := hid (fun w => m_out _ _ ha hb (by omega) w)
    rw [Dig.fits_mul_out a b (by omega)]
    clear h ha hb
    generalize a.natAbs = x at *
    generalize b.natAbs = y at *
    go_enter Try.func20, Try.ntmps20
    go_wp2_with fail
    refine (Hsa.out _).mono ?_
    rintro e w' ⟨rfl, rfl⟩
    go_wp2_with fail
    refine (Hsb.out _).mono ?_
    rintro e w' ⟨rfl, rfl⟩
    go_wp2_with fail
    refine (Hm.out _).mono ?_
    rintro e w' ⟨p, q, hp, rfl, rfl⟩
    have hp' : ((p : Int) != 0) = true := by rw [bne_iff_ne]; omega
    go_wp2_with fail
    go_ret2
    exact ⟨rfl, rfl⟩
end Go.Proofs.Ytaiohmodhngpbaa
