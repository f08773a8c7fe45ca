/- Contracts of the document's own answers of layer 1: what ParseWord returns, for every text. -/
import Derived.Test.YtaiohmodhngpbaaDigS
namespace Go.Proofs.Ytaiohmodhngpbaa
open Go.RowKit

def PwSaid (s : ByteArray) (w : World) : Prop := Calls Try.prog 12 #[.string s] w fun e w' => e = .returned (.tuple #[.int .u64 ((Dig.pw s.data.toList).1 : Int), .int .i64 ((Dig.pw s.data.toList).2 : Int)]) ∧ w = w'

theorem r_pw (s : ByteArray) (hs : s.size ≤ maxLen) (w : World) : PwSaid s w := by
  unfold PwSaid
  have hs' := hs
  unfold maxLen at hs'
  have Hlen := hid (data_len s)
  cases hf : Dig.formed s.data.toList with
  | false =>
    have hp : Dig.pw s.data.toList = (0, 3) := by unfold Dig.pw; rw [hf]; rfl
    have Hf := hid hf
    rw [hp]
    clear hp hf
    go_enter Try.func12, Try.ntmps12
    go_wp2_with (go_at_call 29; refine (r_form _ hs _).mono ?_; rintro e w' ⟨rfl, rfl⟩; rw [Hf.out])
    go_ret2
    exact ⟨rfl, rfl⟩
  | true =>
    have Hf := hid hf
    by_cases c1 : 20 < s.size
    · have hp := Dig.pw_long _ hf (by rw [Hlen.out]; exact c1)
      rw [hp]
      clear hp hf
      go_enter Try.func12, Try.ntmps12
      go_wp2_with (go_at_call 29; refine (r_form _ hs _).mono ?_; rintro e w' ⟨rfl, rfl⟩; rw [Hf.out])
      go_ret2
      exact ⟨rfl, rfl⟩
    · have hb1 : s.size = 20 → Op.bytesLess s.toList [49, 56, 52, 52, 54, 55, 52, 52, 48, 55, 51, 55, 48, 57, 53, 53, 49, 54, 49, 53] = decide (Dig.val s.data.toList < 18446744073709551615) := by
        intro c2; rw [list_of]; exact Dig.less_top _ hf (by rw [Hlen.out]; exact c2)
      have hb2 : s.size = 20 → (s.toList == [49, 56, 52, 52, 54, 55, 52, 52, 48, 55, 51, 55, 48, 57, 53, 53, 49, 54, 49, 53]) = decide (Dig.val s.data.toList = 18446744073709551615) := by
        intro c2; rw [list_of]; exact Dig.same_top _ hf (by rw [Hlen.out]; exact c2)
      by_cases c3 : 18446744073709551615 < Dig.val s.data.toList
      · have c2 : s.size = 20 := by
          have := Dig.pw_short _ hf
          have := Hlen.out
          omega
        have b1 := hb1 c2
        have b2 := hb2 c2
        rw [decide_eq_false (by omega)] at b1 b2
        have hc2 : ((s.size : Int) == 20) = true := by rw [c2]; rfl
        have hp : Dig.pw s.data.toList = (0, 6) := by unfold Dig.pw; rw [if_pos hf, if_neg (by omega)]
        rw [hp]
        clear hp hf c2 c3 hb1 hb2
        go_enter Try.func12, Try.ntmps12
        go_wp2_with (go_at_call 29; refine (r_form _ hs _).mono ?_; rintro e w' ⟨rfl, rfl⟩; rw [Hf.out])
        go_ret2
        exact ⟨rfl, rfl⟩
      · have key : s.size < 20 ∨ (((s.size : Int) == 20) = true ∧ Op.bytesLess s.toList [49, 56, 52, 52, 54, 55, 52, 52, 48, 55, 51, 55, 48, 57, 53, 53, 49, 54, 49, 53] = true) ∨ (((s.size : Int) == 20) = true ∧ Op.bytesLess s.toList [49, 56, 52, 52, 54, 55, 52, 52, 48, 55, 51, 55, 48, 57, 53, 53, 49, 54, 49, 53] = false ∧ (s.toList == [49, 56, 52, 52, 54, 55, 52, 52, 48, 55, 51, 55, 48, 57, 53, 53, 49, 54, 49, 53]) = true) := by
          by_cases c2 : s.size = 20
          · right
            have hc2 : ((s.size : Int) == 20) = true := by rw [c2]; rfl
            by_cases c4 : Dig.val s.data.toList < 18446744073709551615
            · exact .inl ⟨hc2, by rw [hb1 c2]; exact decide_eq_true c4⟩
            · exact .inr ⟨hc2, by rw [hb1 c2]; exact decide_eq_false c4, by rw [hb2 c2]; exact decide_eq_true (by omega)⟩
          · left; omega
        have hp : Dig.pw s.data.toList = (Dig.val s.data.toList, 0) := by unfold Dig.pw; rw [if_pos hf, if_pos (by omega)]
        rw [hp]
        have hall := (Dig.formed_iff _).1 hf
        have Hd : Hid (∀ k, (h : k < s.size) → 48 ≤ (s[k].toNat : Int) ∧ (s[k].toNat : Int) ≤ 57) := by
          intro k h
          have := (List.all_eq_true.1 hall.1) s[k] (by rw [← data_get s k h]; exact List.getElem_mem _)
          exact (isD_iff _).1 this
        have Hv : Hid (Dig.val s.data.toList < 18446744073709551616) := by show _ < _; omega
        clear hp hf c3 hb1 hb2 hall
        rcases key with h | ⟨g1, g2⟩ | ⟨g1, g2, g3⟩
        all_goals
          go_enter Try.func12, Try.ntmps12
          go_wp2_with (go_at_call 29; refine (r_form _ hs _).mono ?_; rintro e w' ⟨rfl, rfl⟩; rw [Hf.out])
          go_loop [4, 5] (fun n i => ∃ v k : Nat, k ≤ s.size ∧ Dig.Same v (Dig.val (s.data.toList.take k)) ∧ n = .int .u64 v ∧ i = .int .i64 k) (fun _ i => s.size - (intOf i).toNat)
          case atStart => exact ⟨0, 0, Nat.zero_le _, rfl, rfl, rfl⟩
          case round =>
            obtain ⟨v, k, hk, hsame, rfl, rfl⟩ := hrel
            by_cases hlt : k < s.size
            · obtain ⟨hd1, hd2⟩ := Hd.out k hlt
              have hnext : Dig.val (s.data.toList.take (k + 1)) = 10 * v + (s[k].toNat - 48) := by
                rw [Dig.take_snoc _ _ (by rw [Hlen.out]; exact hlt), Dig.val_snoc, data_get s k hlt, ← hsame]
              have hle := Dig.val_take_le s.data.toList (k + 1)
              have hov : 10 * v + (s[k].toNat - 48) < 18446744073709551616 := by have := Hv.out; omega
              have Hnext := hid hnext
              clear hnext hle
              go_wp2
              go_round
              case rel => exact ⟨10 * v + (s[k].toNat - 48), k + 1, by omega, Hnext.out.symm, int_k (by omega), by go_num⟩
              case measure => simp [intOf]; omega
            · go_wp2
              go_ret2
              refine ⟨ret_2 (int_k ?_) rfl, rfl⟩
              unfold Dig.Same at hsame
              rw [hsame, List.take_of_length_le (by rw [Hlen.out]; omega)]
end Go.Proofs.Ytaiohmodhngpbaa
