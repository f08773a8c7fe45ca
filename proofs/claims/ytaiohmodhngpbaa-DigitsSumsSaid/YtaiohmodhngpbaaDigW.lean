/- Contracts of layer 1: what the document's own Within returns, and that the chapter's examples hold. -/
import Derived.Test.YtaiohmodhngpbaaDigV
namespace Go.Proofs.Ytaiohmodhngpbaa
open Go.RowKit

theorem pa_zero (l : List UInt8) (h : (Dig.pa l).2 ≠ 0) : (Dig.pa l).1 = 0 := by
  unfold Dig.pa at h ⊢
  split
  · rfl
  · split
    · rfl
    · split
      · rename_i a b c; rw [if_neg a, if_neg b, if_pos c] at h; simp at h
      · rfl

theorem r_Within (s : ByteArray) (hs : s.size ≤ maxLen) (lo hi : Int) (w : World) :
    Calls Try.prog 23 #[.string s, .int .i64 lo, .int .i64 hi] w fun e w' => e = .returned (.tuple #[.int .i64 (Dig.within s.data.toList lo hi).1, .int .i64 ((Dig.within s.data.toList lo hi).2 : Int)]) ∧ w = w' := by
  have hpa : ∀ w, Calls Try.prog 10 #[.string s] w fun e w' => e = .returned (.tuple #[.int .i64 (Dig.pa s.data.toList).1, .int .i64 ((Dig.pa s.data.toList).2 : Int)]) ∧ w = w' := fun w => r_pa s hs w
  have hz := pa_zero s.data.toList
  have hw : Hid (Dig.within s.data.toList lo hi = if (Dig.pa s.data.toList).2 ≠ 0 then (0, (Dig.pa s.data.toList).2) else if (Dig.pa s.data.toList).1 < lo ∨ hi < (Dig.pa s.data.toList).1 then (0, 6) else ((Dig.pa s.data.toList).1, 0)) := rfl
  generalize Dig.within s.data.toList lo hi = ans at *
  generalize Dig.pa s.data.toList = p at *
  obtain ⟨n, e⟩ := p
  have Hpa := hid hpa
  clear hpa
  by_cases he : e = 0
  · subst he
    clear hz
    have hw2 : Hid (ans = if n < lo ∨ hi < n then (0, 6) else (n, 0)) := by
      have := hw.out
      rwa [if_neg (by simp)] at this
    clear hw
    by_cases h1 : n < lo
    · have := hw2.out
      rw [if_pos (.inl h1)] at this
      subst this
      go_enter Try.func23, Try.ntmps23
      go_wp2_with (go_at_call 10; refine (Hpa.out _).mono ?_; rintro e w' ⟨rfl, rfl⟩)
      go_ret2
      exact ⟨rfl, rfl⟩
    · by_cases h2 : hi < n
      · have := hw2.out
        rw [if_pos (.inr h2)] at this
        subst this
        go_enter Try.func23, Try.ntmps23
        go_wp2_with (go_at_call 10; refine (Hpa.out _).mono ?_; rintro e w' ⟨rfl, rfl⟩)
        go_ret2
        exact ⟨rfl, rfl⟩
      · have := hw2.out
        rw [if_neg (by omega)] at this
        subst this
        go_enter Try.func23, Try.ntmps23
        go_wp2_with (go_at_call 10; refine (Hpa.out _).mono ?_; rintro e w' ⟨rfl, rfl⟩)
        go_ret2
        exact ⟨rfl, rfl⟩
  · have := hw.out
    rw [if_pos he] at this
    have hz2 := hz he
    simp only [] at hz2
    subst hz2
    subst this
    have he' : ((e : Int) == 0) = false := by rw [beq_eq_false_iff_ne]; omega
    clear hw hz
    go_enter Try.func23, Try.ntmps23
    go_wp2_with (go_at_call 10; refine (Hpa.out _).mono ?_; rintro e w' ⟨rfl, rfl⟩)
    go_ret2
    exact ⟨rfl, rfl⟩

/-! ### the chapter's examples -/
theorem ex1 : Dig.pa [48, 48, 55] = (0, 3) := by decide +kernel
theorem ex2 : Dig.pa [45, 48] = (0, 3) := by decide +kernel
theorem ex3 : Dig.pa [57, 50, 50, 51, 51, 55, 50, 48, 51, 54, 56, 53, 52, 55, 55, 53, 56, 48, 56] = (0, 6) := by decide +kernel
theorem ex4 : Dig.pw [49, 56, 52, 52, 54, 55, 52, 52, 48, 55, 51, 55, 48, 57, 53, 53, 49, 54, 49, 53] = (18446744073709551615, 0) := by decide +kernel
theorem ex5 : Dig.fits (4611686018427387904 * 2) = (0, false) := by decide +kernel
theorem ex6 : Dig.wi (-120) = [45, 49, 50, 48] := by decide +kernel

theorem heads (w : World) : Calls Try.prog 17 #[] w fun e w' => e = .returned (.bool true) ∧ Below w.heap.size w w' := by
  have c1 : ∀ w, Calls Try.prog 9 #[.string ⟨#[48, 48, 55]⟩] w fun e w' => e = .returned (.tuple #[.int .i64 0, .int .i64 3]) ∧ w = w' := fun w => by
    have := d_Parse ⟨#[48, 48, 55]⟩ (by decide) w
    rwa [show (ByteArray.mk #[48, 48, 55]).data.toList = [48, 48, 55] from rfl, ex1] at this
  have c2 : ∀ w, Calls Try.prog 9 #[.string ⟨#[45, 48]⟩] w fun e w' => e = .returned (.tuple #[.int .i64 0, .int .i64 3]) ∧ w = w' := fun w => by
    have := d_Parse ⟨#[45, 48]⟩ (by decide) w
    rwa [show (ByteArray.mk #[45, 48]).data.toList = [45, 48] from rfl, ex2] at this
  have c3 : ∀ w, Calls Try.prog 9 #[.string ⟨#[57, 50, 50, 51, 51, 55, 50, 48, 51, 54, 56, 53, 52, 55, 55, 53, 56, 48, 56]⟩] w fun e w' => e = .returned (.tuple #[.int .i64 0, .int .i64 6]) ∧ w = w' := fun w => by
    have := d_Parse ⟨#[57, 50, 50, 51, 51, 55, 50, 48, 51, 54, 56, 53, 52, 55, 55, 53, 56, 48, 56]⟩ (by decide) w
    rwa [show (ByteArray.mk #[57, 50, 50, 51, 51, 55, 50, 48, 51, 54, 56, 53, 52, 55, 55, 53, 56, 48, 56]).data.toList = [57, 50, 50, 51, 51, 55, 50, 48, 51, 54, 56, 53, 52, 55, 55, 53, 56, 48, 56] from rfl, ex3] at this
  have c4 : ∀ w, Calls Try.prog 11 #[.string ⟨#[49, 56, 52, 52, 54, 55, 52, 52, 48, 55, 51, 55, 48, 57, 53, 53, 49, 54, 49, 53]⟩] w fun e w' => e = .returned (.tuple #[.int .u64 18446744073709551615, .int .i64 0]) ∧ w = w' := fun w => by
    have := d_ParseWord ⟨#[49, 56, 52, 52, 54, 55, 52, 52, 48, 55, 51, 55, 48, 57, 53, 53, 49, 54, 49, 53]⟩ (by decide) w
    rwa [show (ByteArray.mk #[49, 56, 52, 52, 54, 55, 52, 52, 48, 55, 51, 55, 48, 57, 53, 53, 49, 54, 49, 53]).data.toList = [49, 56, 52, 52, 54, 55, 52, 52, 48, 55, 51, 55, 48, 57, 53, 53, 49, 54, 49, 53] from rfl, ex4] at this
  have c5 : ∀ w, Calls Try.prog 20 #[.int .i64 4611686018427387904, .int .i64 2] w fun e w' => e = .returned (.tuple #[.int .i64 0, .bool false]) ∧ w = w' := fun w => by
    have := d_Mul 4611686018427387904 2 (by omega) (by omega) (by omega) (by omega) w
    rwa [ex5] at this
  have c6 : ∀ w, Calls Try.prog 13 #[.int .i64 (-120)] w fun e w' => e = .returned (.string ⟨#[45, 49, 50, 48]⟩) ∧ Below w.heap.size w w' := fun w => by
    have := d_Print (-120) (by omega) (by omega) w
    rwa [ex6] at this
  have C1 := hid c1
  have C2 := hid c2
  have C3 := hid c3
  have C4 := hid c4
  have C5 := hid c5
  have C6 := hid c6
  clear c1 c2 c3 c4 c5 c6
  go_enter Try.func17, Try.ntmps17
  go_wp2_with fail
  refine (C1.out _).mono ?_
  rintro e w' ⟨rfl, rfl⟩
  go_wp2_with fail
  refine (C2.out _).mono ?_
  rintro e w' ⟨rfl, rfl⟩
  go_wp2_with fail
  refine (C3.out _).mono ?_
  rintro e w' ⟨rfl, rfl⟩
  go_wp2_with fail
  refine (C4.out _).mono ?_
  rintro e w' ⟨rfl, rfl⟩
  go_wp2_with fail
  refine (C5.out _).mono ?_
  rintro e w' ⟨rfl, rfl⟩
  go_wp2_with fail
  refine (C6.out _).mono ?_
  rintro e w' ⟨rfl, hb⟩
  go_wp2_with fail
  go_ret
  exact ⟨rfl, hb⟩
end Go.Proofs.Ytaiohmodhngpbaa
