/- Contracts of the document's own answer for layer 11 (room): Name, Meets, Rows, Fits, Same, Right. -/
import Derived.Test.YtgkplcipplpobaaRomB
import Derived.Test.YtgkplcipplpobaaWh2
namespace Go.Proofs.Ytgkplcipplpobaa
open Go.RowKit
open Whn (Gr Wh)

theorem r_Name (s : ByteArray) (w : World) : Calls Try.prog 32 #[.string s] w (fun e w' => e = .returned (.bool (nameOk s.data.toList)) ∧ w = w') := by
  have Hr := hid (show nameOk s.data.toList = (decide (1 ≤ s.size) && decide (s.size ≤ 24)) by unfold nameOk; rw [data_len])
  by_cases h1 : 1 ≤ s.size
  · have h2 : ((1 : Int) ≤ (s.size : Int)) := by omega
    go_enter Try.func32, Try.ntmps32
    go_wp2_with fail
    go_ret
    refine ⟨?_, rfl⟩
    rw [Hr.out, decide_eq_true h1, Bool.true_and]
    have : decide ((s.size : Int) ≤ 24) = decide (s.size ≤ 24) := by rw [decide_eq_decide]; omega
    try rw [← this]
    rfl
  · have h2 : ¬ ((1 : Int) ≤ (s.size : Int)) := by omega
    have h3 := hid (decide_eq_false h1)
    clear h1
    go_enter Try.func32, Try.ntmps32
    go_wp2_with fail
    go_ret
    refine ⟨?_, rfl⟩
    rw [Hr.out, h3.out]; rfl
/-- '!=' of two times -/
theorem wh_neq (x y : Wh) (w : World) : (binOp .neq 119 (wv x) (wv y)).run Try.prog w = .ok (.bool (!(whEq x y))) w := by
  go_simp
  have h1 : ((x.w : Int) = (y.w : Int)) = (x.w = y.w) := propext ⟨fun h => by omega, fun h => by omega⟩
  have h2 : ((x.d : Int) = (y.d : Int)) = (x.d = y.d) := propext ⟨fun h => by omega, fun h => by omega⟩
  simp only [h1, h2]
  unfold whEq
  by_cases a1 : x.w = y.w
  · by_cases a2 : x.d = y.d
    · by_cases a3 : x.s = y.s
      · by_cases a4 : x.l = y.l
        · simp [a1, a2, a3, a4]
        · simp [a1, a2, a3, a4]
      · simp [a1, a2, a3]
    · simp [a1, a2]
  · simp [a1]
end Go.Proofs.Ytgkplcipplpobaa
