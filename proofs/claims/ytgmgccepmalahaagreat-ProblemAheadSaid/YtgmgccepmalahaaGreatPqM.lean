/- Lower layers: what the program itself answers (MnyP). -/
import Derived.Test.YtgmgccepmalahaaGreatPqF
import Derived.Test.YtgmgccepmalahaaGreatWh2
namespace Go.Proofs.YtgmgccepmalahaaGreat
open Go.RowKit
open Whn (Gr Wh)
theorem p_withinM (n lo hi : Int) (w : World) : Calls Tryz.prog 147 #[.int .i64 n, .int .i64 lo, .int .i64 hi] w (fun e w' => e = .returned (.bool (frB n lo hi)) ∧ w = w') := by
  by_cases h1 : lo ≤ n
  · have h2 := hid (show decide (n ≤ hi) = frB n lo hi by show _ = frB n (lo) (hi); unfold frB; rw [decide_eq_true h1, Bool.true_and])
    go_enter Tryz.func147, Tryz.ntmps147
    go_wp2_with fail
    go_ret
    exact ⟨congrArg (fun z => Ending.returned (Value.bool z)) h2.out, rfl⟩
  · have h2 := hid (show false = frB n lo hi by show _ = frB n (lo) (hi); unfold frB; rw [decide_eq_false h1, Bool.false_and])
    go_enter Tryz.func147, Tryz.ntmps147
    go_wp2_with fail
    go_ret
    exact ⟨congrArg (fun z => Ending.returned (Value.bool z)) h2.out, rfl⟩
theorem p_ofPairs (n : Int) (w : World) : Calls Tryz.prog 148 #[.int .i64 n] w (fun e w' => e = .returned (.bool (kn15 n)) ∧ w = w') := by
  have H1 := hid (fun X => p_withinM n 1 14 X)
  have h2 := hid (show frB n 1 14 = kn15 n from rfl)
  generalize frB n 1 14 = f1 at *
  go_enter Tryz.func148, Tryz.ntmps148
  go_wp2_with fail
  refine (H1.out _).mono ?_
  rintro e w1 ⟨rfl, rfl⟩
  go_wp2_with fail
  go_ret
  exact ⟨congrArg (fun z => Ending.returned (Value.bool z)) h2.out, rfl⟩
theorem p_RightM (k a b : Int) (w : World) : Calls Tryz.prog 60 #[.int .i64 k, .int .i64 a, .int .i64 b] w (fun e w' => e = .returned (.bool (rtV k a b)) ∧ w = w') := by
  by_cases h21 : k = 21
  · subst h21
    have Hr := hid (show rtV 21 a b = (frB a 1 7 && (b == 0)) from (by unfold rtV; simp [deq]))
    have H1 := hid (fun X => p_withinM a 1 7 X)
    generalize frB a 1 7 = f1 at *
    generalize rtV 21 a b = q at *
    go_enter Tryz.func60, Tryz.ntmps60
    go_wp2_with fail
    refine (H1.out _).mono ?_
    rintro e w1 ⟨rfl, rfl⟩
    cases f1 with
    | false =>
      go_wp2_with fail
      go_ret
      exact ⟨congrArg (fun z => Ending.returned (Value.bool z)) (by rw [Hr.out]; rfl), rfl⟩
    | true =>
      go_wp2_with fail
      go_ret
      exact ⟨congrArg (fun z => Ending.returned (Value.bool z)) (by rw [Hr.out, Bool.true_and]), rfl⟩
  by_cases h22 : k = 22
  · subst h22
    have Hr := hid (show rtV 22 a b = (frB a 1 96 && (b == 0)) from (by unfold rtV; simp [deq]))
    have H1 := hid (fun X => p_withinM a 1 96 X)
    generalize frB a 1 96 = f1 at *
    generalize rtV 22 a b = q at *
    go_enter Tryz.func60, Tryz.ntmps60
    go_wp2_with fail
    refine (H1.out _).mono ?_
    rintro e w1 ⟨rfl, rfl⟩
    cases f1 with
    | false =>
      go_wp2_with fail
      go_ret
      exact ⟨congrArg (fun z => Ending.returned (Value.bool z)) (by rw [Hr.out]; rfl), rfl⟩
    | true =>
      go_wp2_with fail
      go_ret
      exact ⟨congrArg (fun z => Ending.returned (Value.bool z)) (by rw [Hr.out, Bool.true_and]), rfl⟩
  by_cases h13 : k = 13
  · subst h13
    have Hr := hid (show rtV 13 a b = (frB a 1 96 && (b == 0)) from (by unfold rtV; simp [deq]))
    have H1 := hid (fun X => p_withinM a 1 96 X)
    generalize frB a 1 96 = f1 at *
    generalize rtV 13 a b = q at *
    go_enter Tryz.func60, Tryz.ntmps60
    go_wp2_with fail
    refine (H1.out _).mono ?_
    rintro e w1 ⟨rfl, rfl⟩
    cases f1 with
    | false =>
      go_wp2_with fail
      go_ret
      exact ⟨congrArg (fun z => Ending.returned (Value.bool z)) (by rw [Hr.out]; rfl), rfl⟩
    | true =>
      go_wp2_with fail
      go_ret
      exact ⟨congrArg (fun z => Ending.returned (Value.bool z)) (by rw [Hr.out, Bool.true_and]), rfl⟩
  by_cases h23 : k = 23
  · subst h23
    have Hr := hid (show rtV 23 a b = (frB a 0 48 && frB b 0 96) from rfl)
    have H1 := hid (fun X => p_withinM a 0 48 X)
    have H2 := hid (fun X => p_withinM b 0 96 X)
    generalize frB a 0 48 = f1 at *
    generalize frB b 0 96 = f2 at *
    generalize rtV 23 a b = q at *
    go_enter Tryz.func60, Tryz.ntmps60
    go_wp2_with fail
    refine (H1.out _).mono ?_
    rintro e w1 ⟨rfl, rfl⟩
    cases f1 with
    | false =>
      go_wp2_with fail
      go_ret
      exact ⟨congrArg (fun z => Ending.returned (Value.bool z)) (by rw [Hr.out]; rfl), rfl⟩
    | true =>
      go_wp2_with fail
      refine (H2.out _).mono ?_
      rintro e w2 ⟨rfl, rfl⟩
      go_wp2_with fail
      go_ret
      exact ⟨congrArg (fun z => Ending.returned (Value.bool z)) (by rw [Hr.out]; rfl), rfl⟩
  by_cases h24 : k = 24
  · subst h24
    have Hr := hid (show rtV 24 a b = (frB a 1 96 && frB b 0 96) from rfl)
    have H1 := hid (fun X => p_withinM a 1 96 X)
    have H2 := hid (fun X => p_withinM b 0 96 X)
    generalize frB a 1 96 = f1 at *
    generalize frB b 0 96 = f2 at *
    generalize rtV 24 a b = q at *
    go_enter Tryz.func60, Tryz.ntmps60
    go_wp2_with fail
    refine (H1.out _).mono ?_
    rintro e w1 ⟨rfl, rfl⟩
    cases f1 with
    | false =>
      go_wp2_with fail
      go_ret
      exact ⟨congrArg (fun z => Ending.returned (Value.bool z)) (by rw [Hr.out]; rfl), rfl⟩
    | true =>
      go_wp2_with fail
      refine (H2.out _).mono ?_
      rintro e w2 ⟨rfl, rfl⟩
      go_wp2_with fail
      go_ret
      exact ⟨congrArg (fun z => Ending.returned (Value.bool z)) (by rw [Hr.out]; rfl), rfl⟩
  have Hr := hid (show rtV k a b = (kn15 k && ((a == 0) && (b == 0))) by
    unfold rtV
    rw [if_neg h21, if_neg (by omega), if_neg h23, if_neg h24, deq, deq])
  have H1 := hid (fun X => p_ofPairs k X)
  have q1 : (k == 21) = false := by rw [beq_eq_false_iff_ne]; exact h21
  have q2 : (k == 22) = false := by rw [beq_eq_false_iff_ne]; exact h22
  have q3 : (k == 13) = false := by rw [beq_eq_false_iff_ne]; exact h13
  have q4 : (k == 23) = false := by rw [beq_eq_false_iff_ne]; exact h23
  have q5 : (k == 24) = false := by rw [beq_eq_false_iff_ne]; exact h24
  clear h21 h22 h13 h23 h24
  generalize rtV k a b = q at *
  generalize kn15 k = f1 at *
  go_enter Tryz.func60, Tryz.ntmps60
  go_wp2_with fail
  refine (H1.out _).mono ?_
  rintro e w1 ⟨rfl, rfl⟩
  cases f1 with
  | false =>
    go_wp2_with fail
    go_ret
    exact ⟨congrArg (fun z => Ending.returned (Value.bool z)) (by rw [Hr.out]; rfl), rfl⟩
  | true =>
    cases h1 : (a == 0) with
    | false =>
      rw [h1] at Hr
      go_wp2_with fail
      go_ret
      exact ⟨congrArg (fun z => Ending.returned (Value.bool z)) (by rw [Hr.out]; rfl), rfl⟩
    | true =>
      rw [h1] at Hr
      go_wp2_with fail
      go_ret
      exact ⟨congrArg (fun z => Ending.returned (Value.bool z)) (by rw [Hr.out]; rfl), rfl⟩
end Go.Proofs.YtgmgccepmalahaaGreat
