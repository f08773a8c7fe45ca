/- Contracts of the document's own answers of layer 1: what each returns, for every argument. -/
import Derived.Test.YtaiohmodhngpbaaDigD
namespace Go.Proofs.Ytaiohmodhngpbaa
open Go.RowKit

theorem r_digit (n : Nat) (h : n < 18446744073709551616) (w : World) :
    Calls Try.prog 33 #[.int .u64 n] w fun e w' => e = .returned (txt [Dig.dg n]) ∧ Below w.heap.size w w' := by
  have hconv := run_text_new (P := Try.prog) w Try.underlying51 Try.underlying5 Try.underlying9 (t := 5) [Dig.dg n] (by unfold maxLen; simp)
  have e : bcell (Dig.dg n) = Value.int .u8 (48 + (n : Int) % 10) := by unfold bcell; rw [Dig.dg_toNat]; exact int_k (by omega)
  simp only [List.map_cons, List.map_nil, e, List.length_cons, List.length_nil] at hconv
  clear e
  go_enter Try.func33, Try.ntmps33
  go_wp2
  go_ret
  exact ⟨rfl, (Below.refl _ _).alloc (Nat.le_refl _) _⟩

theorem r_Word (n : Nat) (h : n < 18446744073709551616) (w : World) :
    Calls Try.prog 16 #[.int .u64 n] w fun e w' => e = .returned (txt (Dig.wd n)) ∧ Below w.heap.size w w' := by
  go_enter Try.func16, Try.ntmps16
  go_wp2_with (go_at_call 33; refine (r_digit _ h _).mono ?_; rintro e w1 ⟨rfl, hb1⟩)
  go_loopw [0, 3] (fun a s wr => ∃ (m : Nat) (l : List UInt8), m ≤ n ∧ Dig.Tail n m l ∧ a = .int .u64 m ∧ s = txt l ∧ Below w.heap.size w wr) (fun a _ _ => (intOf a).toNat)
  case atStart => exact ⟨n, [Dig.dg n], Nat.le_refl _, Dig.Tail_start n (by omega), rfl, rfl, hb1⟩
  case round =>
    obtain ⟨m, l, hm, ht, rfl, rfl, hb⟩ := hrel
    have hl := Dig.Tail_len n m l ht
    have hs : (bs l).size ≤ 20 := by rw [bs_size]; exact hl
    have hs1 : (bs [Dig.dg (m / 10)]).size ≤ 1 := by rw [bs_size]; exact Nat.le_refl _
    by_cases hlt : m < 10
    · go_wp2
      go_ret
      exact ⟨ret_s (congrArg bs (ht.1 hlt)), hb⟩
    · have hd : ∀ w, Calls Try.prog 33 #[.int .u64 ((m : Int) / 10)] w fun e w' => e = .returned (txt [Dig.dg (m / 10)]) ∧ Below w.heap.size w w' := fun w => r_digit (m / 10) (by omega) w
      have Hd := hid hd
      clear hd
      generalize hc : Dig.dg (m / 10) = c at *
      have Hc := hid hc
      clear hc
      go_wp2_with (go_at_call 33; refine (Hd.out _).mono ?_; rintro e w2 ⟨rfl, hb2⟩)
      refine ⟨⟨m / 10, c :: l, by omega, by rw [← Hc.out]; exact Dig.Tail_next n m l (by omega) (by omega) ht, by go_num, by rw [bs_append]; rfl, hb.trans (hb2.mono hb.size)⟩, by simp [intOf]; omega⟩

theorem r_Size (n : Int) (h1 : -9223372036854775808 ≤ n) (h2 : n ≤ 9223372036854775807) (w : World) :
    Calls Try.prog 31 #[.int .i64 n] w fun e w' => e = .returned (.int .u64 (n.natAbs : Int)) ∧ w = w' := by
  by_cases h : n < 0
  · go_enter Try.func31, Try.ntmps31
    go_wp2
    go_ret
    exact ⟨ret_k (by (try rw [IntKind.wrap_u64]); (try rw [IntKind.wrap_u64]); omega), rfl⟩
  · go_enter Try.func31, Try.ntmps31
    go_wp2
    go_ret
    exact ⟨ret_k (by omega), rfl⟩

theorem r_Print (n : Int) (h1 : -9223372036854775808 ≤ n) (h2 : n ≤ 9223372036854775807) (w : World) :
    Calls Try.prog 14 #[.int .i64 n] w fun e w' => e = .returned (txt (Dig.wi n)) ∧ Below w.heap.size w w' := by
  unfold Dig.wi
  have hz : (bs (Dig.wd n.natAbs)).size ≤ 20 := by rw [bs_size]; exact Dig.wd_length_le _
  by_cases h : n < 0
  · rw [if_pos h]
    go_enter Try.func14, Try.ntmps14
    go_wp2_with (first | (go_at_call 31; refine (r_Size _ h1 h2 _).mono ?_; rintro e w' ⟨rfl, rfl⟩) | (go_at_call 16; refine (r_Word _ (by omega) _).mono ?_; rintro e w' ⟨rfl, hb⟩))
    go_ret
    exact ⟨ret_s (bs_append [45] _), hb⟩
  · rw [if_neg h]
    go_enter Try.func14, Try.ntmps14
    go_wp2_with (first | (go_at_call 31; refine (r_Size _ h1 h2 _).mono ?_; rintro e w' ⟨rfl, rfl⟩) | (go_at_call 16; refine (r_Word _ (by omega) _).mono ?_; rintro e w' ⟨rfl, hb⟩))
    go_ret
    exact ⟨rfl, hb⟩

theorem r_Add (a b : Int) (a1 : -9223372036854775808 ≤ a) (a2 : a ≤ 9223372036854775807) (b1 : -9223372036854775808 ≤ b) (b2 : b ≤ 9223372036854775807) (w : World) :
    Calls Try.prog 19 #[.int .i64 a, .int .i64 b] w fun e w' => e = .returned (.tuple #[.int .i64 (Dig.fits (a + b)).1, .bool (Dig.fits (a + b)).2]) ∧ w = w' := by
  by_cases h : -9223372036854775808 ≤ a + b ∧ a + b ≤ 9223372036854775807
  · rw [Dig.fits_in _ h]
    obtain ⟨h1, h2⟩ := h
    by_cases hb : b < 0
    · have hd : ¬ a < -9223372036854775808 - b := by omega
      go_enter Try.func19, Try.ntmps19
      go_wp2
      go_ret2
      exact ⟨rfl, rfl⟩
    · by_cases hb0 : 0 < b
      · have hd : ¬ 9223372036854775807 - b < a := by omega
        go_enter Try.func19, Try.ntmps19
        go_wp2
        go_ret2
        exact ⟨rfl, rfl⟩
      · go_enter Try.func19, Try.ntmps19
        go_wp2
        go_ret2
        exact ⟨rfl, rfl⟩
  · rw [Dig.fits_out _ h]
    by_cases hb : b < 0
    · have hd : a < -9223372036854775808 - b := by omega
      clear h
      go_enter Try.func19, Try.ntmps19
      go_wp2
      go_ret2
      exact ⟨rfl, rfl⟩
    · have hb0 : 0 < b := by omega
      have hd : 9223372036854775807 - b < a := by omega
      clear h
      go_enter Try.func19, Try.ntmps19
      go_wp2
      go_ret2
      exact ⟨rfl, rfl⟩

end Go.Proofs.Ytaiohmodhngpbaa
