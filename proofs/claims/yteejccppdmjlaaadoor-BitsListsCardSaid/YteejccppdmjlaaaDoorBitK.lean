/- The table of math/bits, out of the row's condition (layer 5's cards). -/
import Derived.Test.YteejccppdmjlaaaDoorBitL
import Derived.Test.YteejccppdmjlaaaDoorRows
import Derived.Lib.LaidTab
import Derived.MakeChecks
namespace Go.Proofs.YteejccppdmjlaaaDoor
open Go.RowKit

theorem tab_data : (Rows.laid_math_bits_deBruijn64tab : DataW Unit) = Lib.tabData .u8 (Lib.deBruijn64tab.map fun (n : Nat) => (n : Int)) := rfl
theorem tab_getD : ∀ j < 64, (Lib.deBruijn64tab.map fun (n : Nat) => (n : Int)).getD j 0 = ((Lib.deBruijn64tab.getD j 0 : Nat) : Int) := by decide +kernel
theorem tab_of_laid {W : World} (h : laidMetH Tryd.prog [("math/bits.deBruijn64tab", Rows.laid_math_bits_deBruijn64tab)] W) : Tab W := by
  rw [MakeChecks.laidMetH_plain _ _ _ (by kernel_rfl), tab_data] at h
  have hg : Tryd.prog.globalNamed "math/bits.deBruijn64tab" = some 0 := by kernel_rfl
  have ht := Lib.tabIs_of_head (t := 50) (e := 5) (n := 64) hg (by kernel_rfl) Tryd.underlying50 Tryd.underlying5 (by kernel_rfl) (by kernel_rfl) h
  intro j hj
  rw [ht.cell hg j (by rw [List.length_map]; exact hj), tab_getD j hj]
end Go.Proofs.YteejccppdmjlaaaDoor
