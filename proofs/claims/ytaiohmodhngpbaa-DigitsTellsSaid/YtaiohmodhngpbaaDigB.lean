/- Contracts of layer 1 (digits): what ParseWord returns, for every text. -/
import Derived.Test.YtaiohmodhngpbaaDigA
namespace Go.Proofs.Ytaiohmodhngpbaa
open Go.RowKit

theorem m_10 (v : Nat) (h : v * 10 < 18446744073709551616) (w : World) :
    Calls Try.prog 27 #[.int .u64 v, .int .u64 10] w fun e w' => e = .returned (.tuple #[.int .u64 0, .int .u64 ((v * 10 : Nat) : Int)]) ∧ w = w' := by
  refine (Try.bits_Mul64 v 10 (by omega) (by omega) w).mono ?_
  rintro e w' ⟨rfl, rfl⟩
  exact ⟨ret_2 (int_k (by omega)) (int_k (by omega)), rfl⟩

theorem m_10_out (v : Nat) (h0 : v < 18446744073709551616) (h : 18446744073709551616 ≤ v * 10) (w : World) :
    Calls Try.prog 27 #[.int .u64 v, .int .u64 10] w fun e w' => ∃ a b : Nat, (1 ≤ a ∧ a < 10) ∧ b < 18446744073709551616 ∧ e = .returned (.tuple #[.int .u64 a, .int .u64 b]) ∧ w = w' := by
  refine (Try.bits_Mul64 v 10 (by omega) (by omega) w).mono ?_
  rintro e w' ⟨rfl, rfl⟩
  exact ⟨_, _, ⟨by omega, by omega⟩, by omega, rfl, rfl⟩

theorem a_run (x y : Int) (hx : 0 ≤ x) (hy : 0 ≤ y) (w : World) :
    (callFunc 28 #[.int .u64 x, .int .u64 y, .int .u64 0]).run Try.prog w = .ok (.value (.tuple #[.int .u64 ((x + y + 0) % 18446744073709551616), .int .u64 ((x + y + 0) / 18446744073709551616)])) w := by
  rw [run_callFunc_extern (e := add64Entry) Try.func28 (by kernel_rfl) (by kernel_rfl) (by kernel_rfl) (by rfl), run_add64 x y 0 hx hy (by omega) (by omega)]
  rfl

theorem a_ok (x y : Int) (hx : 0 ≤ x) (hy : 0 ≤ y) (h : x + y < 18446744073709551616) (w : World) :
    (callFunc 28 #[.int .u64 x, .int .u64 y, .int .u64 0]).run Try.prog w = .ok (.value (.tuple #[.int .u64 (x + y), .int .u64 0])) w := by
  rw [a_run x y hx hy, show (x + y + 0) % 18446744073709551616 = x + y from by omega, show (x + y + 0) / 18446744073709551616 = 0 from by omega]

theorem a_out (x y : Int) (hx : 0 ≤ x) (hy : 0 ≤ y) (hx' : x < 18446744073709551616) (hy' : y < 18446744073709551616) (h : 18446744073709551616 ≤ x + y) (w : World) :
    ∃ z : Nat, z < 18446744073709551616 ∧ (callFunc 28 #[.int .u64 x, .int .u64 y, .int .u64 0]).run Try.prog w = .ok (.value (.tuple #[.int .u64 z, .int .u64 1])) w := by
  refine ⟨(x + y - 18446744073709551616).toNat, by omega, ?_⟩
  rw [a_run x y hx hy, show (x + y + 0) % 18446744073709551616 = ((x + y - 18446744073709551616).toNat : Int) from by omega, show (x + y + 0) / 18446744073709551616 = 1 from by omega]

theorem a_any (x y : Int) (hx : 0 ≤ x) (hy : 0 ≤ y) (hx' : x < 18446744073709551616) (hy' : y < 18446744073709551616) (w : World) :
    ∃ z c : Nat, z < 18446744073709551616 ∧ c ≤ 1 ∧ (callFunc 28 #[.int .u64 x, .int .u64 y, .int .u64 0]).run Try.prog w = .ok (.value (.tuple #[.int .u64 z, .int .u64 c])) w := by
  by_cases h : x + y < 18446744073709551616
  · exact ⟨(x + y).toNat, 0, by omega, by omega, by rw [a_ok x y hx hy h, show ((x + y).toNat : Int) = x + y from by omega]; rfl⟩
  · obtain ⟨z, hz, e⟩ := a_out x y hx hy hx' hy' (by omega) w
    exact ⟨z, 1, hz, by omega, e⟩

theorem d_ParseWord (s : ByteArray) (hs : s.size ≤ maxLen) (w : World) :
    Calls Try.prog 11 #[.string s] w fun e w' => e = .returned (.tuple #[.int .u64 ((Dig.pw s.data.toList).1 : Int), .int .i64 ((Dig.pw s.data.toList).2 : Int)]) ∧ w = w' := by
  have hs' := hs
  unfold maxLen at hs'
  have Hlen := hid (data_len s)
  cases hf : Dig.formed s.data.toList with
  | false =>
    have hp : Dig.pw s.data.toList = (0, 3) := by unfold Dig.pw; rw [hf]; rfl
    have Hf := hid hf
    rw [hp]
    clear hp hf
    go_enter Try.func11, Try.ntmps11
    go_wp2_with (go_at_call 26; refine (d_formed _ hs _).mono ?_; rintro e w' ⟨rfl, rfl⟩; rw [Hf.out])
    go_ret2
    exact ⟨rfl, rfl⟩
  | true =>
    have Hf := hid hf
    have hall := (Dig.formed_iff _).1 hf
    have Hd : Hid (∀ k, (h : k < s.size) → 48 ≤ (s[k].toNat : Int) ∧ (s[k].toNat : Int) ≤ 57) := by
      intro k h
      have := (List.all_eq_true.1 hall.1) s[k] (by rw [← data_get s k h]; exact List.getElem_mem _)
      exact (isD_iff _).1 this
    clear hf hall
    go_enter Try.func11, Try.ntmps11
    go_wp2_with (go_at_call 26; refine (d_formed _ hs _).mono ?_; rintro e w' ⟨rfl, rfl⟩; rw [Hf.out])
    go_loop [4, 5, 6, 7, 8, 9, 15] (fun n _ _ _ _ _ i => ∃ v k : Nat, k ≤ s.size ∧ v < 18446744073709551616 ∧ Dig.Same v (Dig.val (s.data.toList.take k)) ∧ n = .int .u64 v ∧ i = .int .i64 k) (fun _ _ _ _ _ _ i => s.size - (intOf i).toNat)
    case atStart => exact ⟨0, 0, Nat.zero_le _, by omega, rfl, rfl, rfl⟩
    case round =>
      obtain ⟨v, k, hk, hv, hsame, rfl, rfl⟩ := hrel
      by_cases hlt : k < s.size
      · obtain ⟨hd1, hd2⟩ := Hd.out k hlt
        by_cases hov : v * 10 < 18446744073709551616
        · have hnext : Hid (Dig.val (s.data.toList.take (k + 1)) = 10 * v + (s[k].toNat - 48)) := by
            show Dig.val _ = _
            rw [Dig.take_snoc _ _ (by rw [Hlen.out]; exact hlt), Dig.val_snoc, data_get s k hlt, ← hsame]
          by_cases hov2 : v * 10 + (s[k].toNat - 48) < 18446744073709551616
          · have ha := a_ok ((v : Int) * 10) ((s[k].toNat : Int) - 48) (by omega) (by omega) (by omega) w
            go_wp2_with (go_at_call 27; refine (m_10 _ hov _).mono ?_; rintro e w' ⟨rfl, rfl⟩)
            refine ⟨⟨10 * v + (s[k].toNat - 48), k + 1, by omega, by omega, hnext.out.symm, ?_, by go_num⟩, by simp [intOf]; omega⟩
            exact int_k (by omega)
          · obtain ⟨z, hz, ha⟩ := a_out ((v : Int) * 10) ((s[k].toNat : Int) - 48) (by omega) (by omega) (by omega) (by omega) (by omega) w
            have hres : Hid (Dig.pw s.data.toList = (0, 6)) := by
              show Dig.pw _ = _
              have hle := Dig.val_take_le s.data.toList (k + 1)
              rw [hnext.out] at hle
              unfold Dig.pw; rw [if_pos Hf.out, if_neg (by omega)]
            go_wp2_with (go_at_call 27; refine (m_10 _ hov _).mono ?_; rintro e w' ⟨rfl, rfl⟩)
            go_ret2
            rw [hres.out]
            exact ⟨rfl, rfl⟩
        · have hres : Hid (Dig.pw s.data.toList = (0, 6)) := by
            show Dig.pw _ = _
            have hle := Dig.val_take_le s.data.toList (k + 1)
            rw [Dig.take_snoc _ _ (by rw [Hlen.out]; exact hlt), Dig.val_snoc, data_get s k hlt, ← hsame] at hle
            unfold Dig.pw; rw [if_pos Hf.out, if_neg (by omega)]
          have ha : Hid (∀ b : Nat, b < 18446744073709551616 → ∃ z c : Nat, z < 18446744073709551616 ∧ c ≤ 1 ∧ (callFunc 28 #[.int .u64 b, .int .u64 ((s[k].toNat : Int) - 48), .int .u64 0]).run Try.prog w = .ok (.value (.tuple #[.int .u64 z, .int .u64 c])) w) := fun b hb => a_any _ _ (by omega) (by omega) (by omega) (by omega) w
          go_wp2_with (go_at_call 27; refine (m_10_out _ hv (by omega) _).mono ?_; rintro e w' ⟨a, b, ⟨ha1, ha2⟩, hb, rfl, rfl⟩; obtain ⟨z, c, hz, hc, hc2⟩ := ha.out b hb)
          go_ret2
          rw [hres.out]
          exact ⟨rfl, rfl⟩
      · go_wp2
        go_ret2
        refine ⟨?_, rfl⟩
        have hval : v = Dig.val s.data.toList := by
          have e := hsame
          unfold Dig.Same at e
          rwa [List.take_of_length_le (by rw [Hlen.out]; omega)] at e
        have hp : Dig.pw s.data.toList = (v, 0) := by unfold Dig.pw; rw [if_pos Hf.out, ← hval, if_pos hv]
        rw [hp]
        rfl
end Go.Proofs.Ytaiohmodhngpbaa
