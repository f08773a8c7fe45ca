/- Contracts of the program's own functions of layer 11 (room): within, Name, Walk, Fits, Shut. -/
import Derived.Test.YtodhpdaoghbmcaaRomG
import Derived.Test.YtodhpdaoghbmcaaRomH
namespace Go.Proofs.Ytodhpdaoghbmcaa
open Go.RowKit
open Whn (Gr Wh)

def inB (n a b : Int) : Bool := decide (a ≤ n) && decide (n ≤ b)
theorem inB_true {n a b : Int} (h1 : a ≤ n) (h2 : n ≤ b) : inB n a b = true := by unfold inB; rw [decide_eq_true h1, decide_eq_true h2]; rfl
theorem inB_false {n a b : Int} (h : n < a ∨ b < n) : inB n a b = false := by
  unfold inB
  by_cases h1 : a ≤ n
  · rw [decide_eq_false (show ¬ n ≤ b by omega), Bool.and_false]
  · rw [decide_eq_false h1, Bool.false_and]
theorem p_wi (n a b : Int) (w : World) : Calls Try.prog 63 #[.int .i64 n, .int .i64 a, .int .i64 b] w (fun e w' => e = .returned (.bool (inB n a b)) ∧ w = w') := by
  by_cases h1 : a ≤ n
  · have h2 := hid (show decide (n ≤ b) = inB n a b by unfold inB; rw [decide_eq_true h1, Bool.true_and])
    go_enter Try.func63, Try.ntmps63
    go_wp2_with fail
    go_ret
    exact ⟨congrArg (fun z => Ending.returned (Value.bool z)) h2.out, rfl⟩
  · have h2 := hid (show false = inB n a b from (inB_false (by omega)).symm)
    go_enter Try.func63, Try.ntmps63
    go_wp2_with fail
    go_ret
    exact ⟨congrArg (fun z => Ending.returned (Value.bool z)) h2.out, rfl⟩
theorem p_Name (s : ByteArray) (w : World) : Calls Try.prog 62 #[.string s] w (fun e w' => e = .returned (.bool (nameOk s.data.toList)) ∧ w = w') := by
  have HI := hid (fun n a b w => p_wi n a b w)
  have Hr := hid (show inB (s.size : Int) 1 24 = nameOk s.data.toList by
    unfold inB nameOk
    have e : s.data.toList.length = s.size := rfl
    rw [e]
    congr 1 <;> (rw [decide_eq_decide]; omega))
  go_enter Try.func62, Try.ntmps62
  go_wp2_with fail
  refine (HI.out _ _ _ _).mono ?_
  rintro e w1 ⟨rfl, rfl⟩
  go_wp2_with fail
  go_ret
  exact ⟨congrArg (fun z => Ending.returned (Value.bool z)) Hr.out, rfl⟩
end Go.Proofs.Ytodhpdaoghbmcaa
