/- Contracts of the document's own answer for layer 10 (clock): Days, ParseDays, number, run. -/
import Derived.Test.YtfnjnkmdifigdaaDoorMem
import Derived.Test.YtfnjnkmdifigdaaDoorStr
import Derived.Test.YtfnjnkmdifigdaaDoorRefD
import Derived.Test.YtfnjnkmdifigdaaDoorClkU
namespace Go.Proofs.YtfnjnkmdifigdaaDoor
open Go.RowKit

theorem dtk_succ (d k : Nat) : Clk.dtk d (k + 1) = Clk.dtk d k ++ (if d.testBit k = true then [Clk.letters.getD k 0] else []) := rfl
theorem dtk_len (d k : Nat) : (Clk.dtk d k).length ≤ k := by
  induction k with
  | zero => exact Nat.le_refl _
  | succ k ih =>
    rw [dtk_succ, List.length_append]
    split <;> simp <;> omega
theorem let_ext (k : Nat) (hk : k < 7) : (⟨#[109, 116, 119, 104, 102, 115, 117]⟩ : ByteArray).extract k (k + 1) = bs [Clk.letters.getD k 0] := by
  have : k = 0 ∨ k = 1 ∨ k = 2 ∨ k = 3 ∨ k = 4 ∨ k = 5 ∨ k = 6 := by omega
  rcases this with rfl | rfl | rfl | rfl | rfl | rfl | rfl <;> rfl
theorem bit_u8 (n i : Nat) : (((n : Int) / 2 ^ i).tmod 2 == 1) = n.testBit i := by
  have h1 : ((n : Int) / 2 ^ i).tmod 2 = ((n / 2 ^ i % 2 : Nat) : Int) := by
    rw [Int.tmod_eq_emod_of_nonneg (Int.ediv_nonneg (by omega) (Int.pow_nonneg (by decide)))]
    rw [Int.natCast_emod, Int.natCast_ediv, Int.natCast_pow]
    rfl
  rw [h1, Nat.testBit_eq_decide_div_mod_eq, Bool.eq_iff_iff, beq_iff_eq, decide_eq_true_iff]
  omega
set_option maxHeartbeats 1000000 in
theorem r_Days (d : Nat) (w : World) : Calls Tryd.prog 23 #[.int .u8 (d : Int)] w (fun e w' => e = .returned (txt (Clk.dt d)) ∧ w = w') := by
  go_enter Tryd.func23, Tryd.ntmps23
  go_wp2_with fail
  go_loop [3, 4] (fun sv iv => ∃ i : Nat, sv = txt (Clk.dtk d i) ∧ iv = .int .i64 i ∧ i ≤ 7) (fun _ iv => 7 - (intOf iv).toNat)
  case atStart => exact ⟨0, rfl, rfl, Nat.zero_le _⟩
  case round =>
    obtain ⟨i, rfl, rfl, hi⟩ := hrel
    by_cases hlt : i < 7
    · have hl := dtk_len d i
      have hs : (bs (Clk.dtk d i)).size ≤ 20 := by rw [bs_size]; omega
      have He := hid (let_ext i hlt)
      have Hs := hid (dtk_succ d i)
      have hb := bit_u8 d i
      generalize Clk.dtk d i = l at *
      cases hbit : d.testBit i with
      | true =>
        rw [hbit] at hb
        rw [hbit, if_pos rfl] at Hs
        clear hbit
        go_wp2_with fail
        refine ⟨⟨i + 1, ?_, by go_num, by omega⟩, by simp [intOf]; omega⟩
        rw [He.out, Hs.out, bs_append]
      | false =>
        rw [hbit] at hb
        rw [hbit, if_neg (by decide), List.append_nil] at Hs
        clear hbit
        go_wp2_with fail
        exact ⟨⟨i + 1, by rw [Hs.out], by go_num, by omega⟩, by simp [intOf]; omega⟩
    · obtain rfl : i = 7 := by omega
      go_wp2_with fail
      go_ret
      exact ⟨rfl, rfl⟩
theorem bs_inj' {a b : List UInt8} (h : (bs a).toList = (bs b).toList) : a = b := by
  rw [list_of, list_of] at h
  exact h
/-- what ParseDays hands out -/
def pdV (s : List UInt8) : Value := .tuple #[.int .u8 ((Clk.pd s).1 : Int), .int .i64 ((Clk.pd s).2 : Int)]
set_option maxRecDepth 20000 in
set_option maxHeartbeats 1000000 in
theorem r_ParseDays (s : List UInt8) (w : World) : Calls Tryd.prog 21 #[txt s] w (fun e w' => e = .returned (pdV s) ∧ w = w') := by
  have HD := hid (fun (d : Nat) w => r_Days d w)
  go_enter Tryd.func21, Tryd.ntmps21
  go_wp2_with fail
  go_loop [4] (fun iv => ∃ k : Nat, iv = .int .i64 k ∧ 1 ≤ k ∧ k ≤ 128 ∧ Hid (∀ j, 1 ≤ j → j < k → Clk.dt j ≠ s)) (fun iv => 128 - (intOf iv).toNat)
  case atStart => exact ⟨1, rfl, Nat.le_refl _, by omega, hid (fun j h1 h2 => absurd h2 (by omega))⟩
  case round =>
    obtain ⟨k, rfl, hk1, hk2, Hno⟩ := hrel
    by_cases hlt : k < 128
    · have H1 := hid (fun w => HD.out k w)
      have u1 : IntKind.u8.wrap (k : Int) = (k : Int) := by rw [IntKind.wrap_u8]; omega
      by_cases he : Clk.dt k = s
      · have Hr := hid (show pdV s = .tuple #[.int .u8 (k : Int), .int .i64 0] by unfold pdV; rw [← he, Clk.pd_dt hk1 hlt]; rfl)
        have q1 : ((bs (Clk.dt k)).toList == (bs s).toList) = true := by rw [he, beq_iff_eq]
        generalize Clk.dt k = l at *
        clear he HD
        go_wp2_with fail
        refine (H1.out _).mono ?_
        rintro e w' ⟨rfl, rfl⟩
        go_wp2_with fail
        go_ret2
        exact ⟨congrArg Ending.returned Hr.out.symm, rfl⟩
      · have q1 : ((bs (Clk.dt k)).toList == (bs s).toList) = false := by rw [beq_eq_false_iff_ne]; exact fun h => he (bs_inj' h)
        have Hn : Hid (∀ j, 1 ≤ j → j < k + 1 → Clk.dt j ≠ s) := hid (fun j h1 h2 => by
          rcases Nat.lt_or_ge j k with h | h
          · exact Hno.out j h1 h
          · obtain rfl : j = k := by omega
            exact he)
        generalize Clk.dt k = l at *
        clear he HD Hno
        go_wp2_with fail
        refine (H1.out _).mono ?_
        rintro e w' ⟨rfl, rfl⟩
        go_wp2_with fail
        clear u1
        exact ⟨⟨k + 1, by go_num, by omega, by omega, Hn⟩, by simp [intOf]; omega⟩
    · have Hr := hid (show pdV s = .tuple #[.int .u8 0, .int .i64 3] by
        unfold pdV
        rcases Clk.pd_err s with h | h
        · obtain ⟨b1, b2, b3⟩ := Clk.pd_back h
          exact absurd b1 (Hno.out _ b2 (by omega))
        · rw [h]; rfl)
      clear HD Hno
      go_wp2_with fail
      go_ret2
      exact ⟨congrArg Ending.returned Hr.out.symm, rfl⟩
/-- what 'number' hands out -/
def nmV (s : List UInt8) : Value := .tuple #[.int .i64 (wrap64 ((Dig.pw s).1 : Int)), .bool (decide ((Dig.pw s).2 = 0) && decide (s.length ≤ 2))]
set_option maxHeartbeats 1000000 in
theorem r_number (s : List UInt8) (hs : s.length ≤ 300000) (w : World) : Calls Tryd.prog 61 #[txt s] w (fun e w' => e = .returned (nmV s) ∧ w = w') := by
  have HP := hid (fun w => r_pw (bs s) (by rw [bs_size]; unfold maxLen; omega) w)
  unfold PwSaid at HP
  rw [bs_data] at HP
  have hz : (bs s).size = s.length := bs_size s
  have hdl : decide ((s.length : Int) ≤ 2) = decide (s.length ≤ 2) := decide_eq_decide.2 (by omega)
  by_cases he : (Dig.pw s).2 = 0
  · have Hr := hid (show nmV s = .tuple #[.int .i64 (wrap64 ((Dig.pw s).1 : Int)), .bool (decide ((s.length : Int) ≤ 2))] by unfold nmV; rw [decide_eq_true he, Bool.true_and, hdl])
    rw [he] at HP
    generalize (Dig.pw s).1 = p at *
    clear hdl he
    go_enter Tryd.func61, Tryd.ntmps61
    go_wp2_with fail
    refine (HP.out _).mono ?_
    rintro e w' ⟨rfl, rfl⟩
    go_wp2_with fail
    go_ret2
    exact ⟨congrArg Ending.returned Hr.out.symm, rfl⟩
  · have Hr := hid (show nmV s = .tuple #[.int .i64 (wrap64 ((Dig.pw s).1 : Int)), .bool false] by unfold nmV; rw [decide_eq_false he, Bool.false_and])
    have t1 : (((Dig.pw s).2 : Int) == 0) = false := by rw [beq_eq_false_iff_ne]; omega
    generalize (Dig.pw s).1 = p at *
    generalize (Dig.pw s).2 = pe at *
    clear hdl he
    go_enter Tryd.func61, Tryd.ntmps61
    go_wp2_with fail
    refine (HP.out _).mono ?_
    rintro e w' ⟨rfl, rfl⟩
    go_wp2_with fail
    go_ret2
    exact ⟨congrArg Ending.returned Hr.out.symm, rfl⟩
end Go.Proofs.YtfnjnkmdifigdaaDoor
