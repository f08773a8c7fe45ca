/- Contracts of the document's own answers of layer 1: what Parse returns, for every text. -/
import Derived.Test.YtaiohmodhngpbaaDigU
namespace Go.Proofs.Ytaiohmodhngpbaa
open Go.RowKit

theorem pw_codes (l : List UInt8) : (Dig.pw l).2 = 0 ∨ (Dig.pw l).2 = 3 ∨ (Dig.pw l).2 = 6 := by
  unfold Dig.pw; split
  · split <;> simp
  · simp
theorem pw_lt (l : List UInt8) : (Dig.pw l).1 < 18446744073709551616 := by
  unfold Dig.pw; split
  · split
    · assumption
    · simp
  · simp
theorem cut1 (s : ByteArray) : (s.extract 1 s.size).data.toList = s.data.toList.tail := by
  rw [ByteArray.data_extract, Array.toList_extract, List.extract_eq_take_drop, List.take_of_length_le (by rw [List.length_drop, data_len]; omega), List.drop_one]
theorem cut1_size (s : ByteArray) : (s.extract 1 s.size).size ≤ s.size := by
  rw [← data_len, cut1, ← data_len s]; simp
theorem cut1_toList (s : ByteArray) : (s.extract 1 s.size).toList = s.data.toList.tail := by rw [list_of, cut1]

def PaSaid (s : ByteArray) (w : World) : Prop := Calls Try.prog 10 #[.string s] w fun e w' => e = .returned (.tuple #[.int .i64 (Dig.pa s.data.toList).1, .int .i64 ((Dig.pa s.data.toList).2 : Int)]) ∧ w = w'

theorem r_pa_below (s : ByteArray) (hs : s.size ≤ maxLen) (hb : Dig.below s.data.toList = true) (w : World) : PaSaid s w := by
  unfold PaSaid
  have hp : 0 < s.size := by
    rw [← data_len]
    unfold Dig.below at hb
    cases h : s.data.toList with
    | nil => rw [h] at hb; simp at hb
    | cons a r => simp
  have h45 : ((s[0].toNat : Int) == 45) = true := by
    have := head_of s hp
    unfold Dig.below at hb
    rw [this] at hb
    have : s[0] = 45 := by simpa using hb
    rw [this]; rfl
  have hr : Dig.rest s.data.toList = s.data.toList.tail := by unfold Dig.rest; rw [if_pos hb]
  have hc := cut1 s
  have ht : (s.extract 1 s.size).toList = Dig.rest s.data.toList := by rw [cut1_toList, hr]
  have hpw : ∀ w, Calls Try.prog 12 #[.string (s.extract 1 s.size)] w fun e w' => e = .returned (.tuple #[.int .u64 ((Dig.pw (Dig.rest s.data.toList)).1 : Int), .int .i64 ((Dig.pw (Dig.rest s.data.toList)).2 : Int)]) ∧ w = w' := by
    intro w
    have := r_pw (s.extract 1 s.size) (Nat.le_trans (cut1_size s) hs) w
    unfold PwSaid at this
    rwa [hc, ← hr] at this
  have hcod := pw_codes (Dig.rest s.data.toList)
  have hback := Dig.pw_back (Dig.rest s.data.toList)
  have hlt := pw_lt (Dig.rest s.data.toList)
  have hnum := Dig.pa_num s.data.toList
  have hout := Dig.pa_out s.data.toList
  have hform := Dig.pa_form s.data.toList
  have hnought := Dig.pa_nought s.data.toList
  rw [hb] at hnum hout hform hnought
  generalize Dig.pa s.data.toList = ans at *
  generalize Dig.rest s.data.toList = r at *
  generalize Dig.pw r = p at *
  obtain ⟨n, e⟩ := p
  have Hpw := hid hpw
  have Ht := hid ht
  have Hback := hid hback
  clear hpw ht hback hc hr
  unfold maxLen at hs
  by_cases h0 : r = [48]
  · have ha := hnought ⟨rfl, h0⟩
    subst ha
    have hq : ((s.extract 1 s.size).toList == [48]) = true := by rw [Ht.out, h0]; rfl
    clear h0 hnum hout hform hnought hcod hb
    go_enter Try.func10, Try.ntmps10
    go_wp2_with (go_at_call 12; refine (Hpw.out _).mono ?_; rintro e w' ⟨rfl, rfl⟩)
    all_goals
      go_ret2
      exact ⟨rfl, rfl⟩
  · have hq : ((s.extract 1 s.size).toList == [48]) = false := by rw [Ht.out, beq_eq_false_iff_ne]; exact h0
    have h1 : ¬ (true = true ∧ r = [48]) := fun e => h0 e.2
    have Hnot := hid h0
    rcases hcod with he | he | he
    · simp only [] at he
      subst he
      by_cases h3 : n ≤ 9223372036854775808
      · have ha := hnum h1 rfl (by rw [Dig.sgn_t n h3])
        rw [Dig.sgn_t n h3] at ha
        have hn : 1 ≤ n := by
          have h5 := (Hback.out rfl).1
          by_cases h6 : n = 0
          · subst h6
            have h7 : Dig.wd 0 = [48] := by decide +kernel
            rw [h7] at h5
            exact absurd h5.symm Hnot.out
          · omega
        have h9 : (n : Int) ≤ 9223372036854775808 := by omega
        subst ha
        clear h0 h1 hnum hout hform hnought hb h3
        go_enter Try.func10, Try.ntmps10
        go_wp2_with (go_at_call 12; refine (Hpw.out _).mono ?_; rintro e w' ⟨rfl, rfl⟩)
        go_ret2
        exact ⟨ret_2 (int_k (by omega)) rfl, rfl⟩
      · have ha := hout h1 rfl (by rw [Dig.sgn_tn n h3]; simp)
        have h9 : (9223372036854775808 : Int) < (n : Int) := by omega
        subst ha
        clear h0 h1 hnum hout hform hnought hb h3
        go_enter Try.func10, Try.ntmps10
        go_wp2_with (go_at_call 12; refine (Hpw.out _).mono ?_; rintro e w' ⟨rfl, rfl⟩)
        all_goals
          go_ret2
          exact ⟨rfl, rfl⟩
    · simp only [] at he
      subst he
      have ha := hform h1 (by simp)
      subst ha
      clear h0 h1 hnum hout hform hnought hb
      go_enter Try.func10, Try.ntmps10
      go_wp2_with (go_at_call 12; refine (Hpw.out _).mono ?_; rintro e w' ⟨rfl, rfl⟩)
      all_goals
        go_ret2
        exact ⟨rfl, rfl⟩
    · simp only [] at he
      subst he
      have ha := hform h1 (by simp)
      subst ha
      clear h0 h1 hnum hout hform hnought hb
      go_enter Try.func10, Try.ntmps10
      go_wp2_with (go_at_call 12; refine (Hpw.out _).mono ?_; rintro e w' ⟨rfl, rfl⟩)
      all_goals
        go_ret2
        exact ⟨rfl, rfl⟩

theorem r_pa_above (s : ByteArray) (hs : s.size ≤ maxLen) (hb : Dig.below s.data.toList = false) (w : World) : PaSaid s w := by
  unfold PaSaid
  have key : s.size = 0 ∨ (∃ h : 0 < s.size, ((s[0].toNat : Int) == 45) = false) := by
    by_cases hp : 0 < s.size
    · right
      refine ⟨hp, ?_⟩
      have := head_of s hp
      unfold Dig.below at hb
      rw [this] at hb
      have : ¬ s[0] = 45 := by simpa using hb
      rw [beq_eq_false_iff_ne]
      intro e
      apply this
      rw [← UInt8.toNat_inj]
      show s[0].toNat = 45
      omega
    · left; omega
  have hr : Dig.rest s.data.toList = s.data.toList := by unfold Dig.rest; rw [hb]; rfl
  have hpw : ∀ w, Calls Try.prog 12 #[.string s] w fun e w' => e = .returned (.tuple #[.int .u64 ((Dig.pw (Dig.rest s.data.toList)).1 : Int), .int .i64 ((Dig.pw (Dig.rest s.data.toList)).2 : Int)]) ∧ w = w' := by
    intro w
    have := r_pw s hs w
    unfold PwSaid at this
    rwa [← hr] at this
  have hcod := pw_codes (Dig.rest s.data.toList)
  have hlt := pw_lt (Dig.rest s.data.toList)
  have hnum := Dig.pa_num s.data.toList
  have hout := Dig.pa_out s.data.toList
  have hform := Dig.pa_form s.data.toList
  rw [hb] at hnum hout hform
  generalize Dig.pa s.data.toList = ans at *
  generalize Dig.rest s.data.toList = r at *
  generalize Dig.pw r = p at *
  obtain ⟨n, e⟩ := p
  have Hpw := hid hpw
  clear hpw hr hb
  unfold maxLen at hs
  have h1 : ¬ (false = true ∧ r = [48]) := by simp
  rcases hcod with he | he | he
  · simp only [] at he
    subst he
    by_cases h3 : n < 9223372036854775808
    · have ha := hnum h1 rfl (by rw [Dig.sgn_f n h3])
      rw [Dig.sgn_f n h3] at ha
      have h9 : ¬ (9223372036854775807 : Int) < (n : Int) := by omega
      subst ha
      clear h1 hnum hout hform h3
      rcases key with k | ⟨hp, k⟩
      all_goals
        go_enter Try.func10, Try.ntmps10
        go_wp2_with (go_at_call 12; refine (Hpw.out _).mono ?_; rintro e w' ⟨rfl, rfl⟩)
        all_goals
          go_ret2
          exact ⟨rfl, rfl⟩
    · have ha := hout h1 rfl (by rw [Dig.sgn_fn n h3]; simp)
      have h9 : (9223372036854775807 : Int) < (n : Int) := by omega
      subst ha
      clear h1 hnum hout hform h3
      rcases key with k | ⟨hp, k⟩
      all_goals
        go_enter Try.func10, Try.ntmps10
        go_wp2_with (go_at_call 12; refine (Hpw.out _).mono ?_; rintro e w' ⟨rfl, rfl⟩)
        all_goals
          go_ret2
          exact ⟨rfl, rfl⟩
  · simp only [] at he
    subst he
    have ha := hform h1 (by simp)
    subst ha
    clear h1 hnum hout hform
    rcases key with k | ⟨hp, k⟩
    all_goals
      go_enter Try.func10, Try.ntmps10
      go_wp2_with (go_at_call 12; refine (Hpw.out _).mono ?_; rintro e w' ⟨rfl, rfl⟩)
      all_goals
        go_ret2
        exact ⟨rfl, rfl⟩
  · simp only [] at he
    subst he
    have ha := hform h1 (by simp)
    subst ha
    clear h1 hnum hout hform
    rcases key with k | ⟨hp, k⟩
    all_goals
      go_enter Try.func10, Try.ntmps10
      go_wp2_with (go_at_call 12; refine (Hpw.out _).mono ?_; rintro e w' ⟨rfl, rfl⟩)
      all_goals
        go_ret2
        exact ⟨rfl, rfl⟩

theorem r_pa (s : ByteArray) (hs : s.size ≤ maxLen) (w : World) : PaSaid s w := by
  cases hb : Dig.below s.data.toList with
  | true => exact r_pa_below s hs hb w
  | false => exact r_pa_above s hs hb w
end Go.Proofs.Ytaiohmodhngpbaa
