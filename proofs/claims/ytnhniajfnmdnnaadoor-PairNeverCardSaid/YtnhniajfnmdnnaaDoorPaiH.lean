/- The library's table as the card lays it (layer 15). -/
import Derived.Test.YtnhniajfnmdnnaaDoorPaiG
import Derived.Test.YtnhniajfnmdnnaaDoorPaiP
import Derived.Test.YtnhniajfnmdnnaaDoorRows
import Derived.Lib.LaidTab
import Derived.MakeChecks
namespace Go.Proofs.YtnhniajfnmdnnaaDoor
open Go.RowKit

theorem tab_data15 : (Rows.laid_math_bits_deBruijn32tab : DataW Unit) = Lib.tabData .u8 (Lib.deBruijn32tab.map fun (n : Nat) => (n : Int)) := rfl
set_option maxRecDepth 20000 in
theorem tb_of {W : World} (h : laidMetH Tryd.prog [("math/bits.deBruijn32tab", Rows.laid_math_bits_deBruijn32tab), ("horarium/pair.names", Rows.laid_horarium_pair_names)] W) : Tb W := by
  intro i hi
  rw [MakeChecks.laidMetH_plain _ _ _ (by kernel_rfl), tab_data15] at h
  have hg : Tryd.prog.globalNamed "math/bits.deBruijn32tab" = some 1 := by kernel_rfl
  have ht := Lib.tabIs_of_head (t := 71) (e := 5) (n := 32) hg (by kernel_rfl) Tryd.underlying71 Tryd.underlying5 (by kernel_rfl) (by kernel_rfl) h
  have hl : (Lib.deBruijn32tab.map fun (n : Nat) => (n : Int)).length = 32 := by decide
  rw [ht.cell hg i (by rw [hl]; exact hi)]
  rw [List.getD_eq_getElem?_getD, List.getD_eq_getElem?_getD, List.getElem?_map]
  cases Lib.deBruijn32tab[i]? <;> rfl
def nmT : List (List UInt8) := (List.range 25).map fun i => nmB ((i : Nat) : Int)
theorem names_data15 : (Rows.laid_horarium_pair_names : DataW Unit) = .agg (nmT.map fun z => .lit (.string z)) := by kernel_rfl
set_option maxRecDepth 20000 in
theorem tn_of {W : World} (h : laidMetH Tryd.prog [("math/bits.deBruijn32tab", Rows.laid_math_bits_deBruijn32tab), ("horarium/pair.names", Rows.laid_horarium_pair_names)] W) : Tn W := by
  intro i hi
  rw [MakeChecks.laidMetH_plain _ _ _ (by kernel_rfl), names_data15] at h
  have hg : Tryd.prog.globalNamed "horarium/pair.names" = some 0 := by kernel_rfl
  obtain ⟨ps, ⟨_, _, _, _, _, _, _, _, _, _, ⟨g', t', cs, fuel, p, q, hg', ht', hvar, hd, _, _⟩, _⟩, _⟩ := h
  obtain rfl := Option.some.inj (hg.symm.trans hg')
  have hty : (Tryd.prog.globals[0]?).map (·.type) = some 47 := by kernel_rfl
  obtain rfl := Option.some.inj (hty.symm.trans ht')
  have hc := cells_of_texts Tryd.underlying47 Tryd.underlying9 (by kernel_rfl) (by kernel_rfl) hd
  have h1 := World.var?_cell hg hvar i
  rw [h1]
  have h2 : cs.toList[i]? = some (txt (nmB (i : Int))) := by
    rw [hc, List.getElem?_map]
    unfold nmT
    rw [List.getElem?_map, List.getElem?_range hi]
    rfl
  simpa using h2
theorem tbn_of {W : World} (h : laidMetH Tryd.prog [("math/bits.deBruijn32tab", Rows.laid_math_bits_deBruijn32tab), ("horarium/pair.names", Rows.laid_horarium_pair_names)] W) : Tbn W := ⟨tb_of h, tn_of h⟩
end Go.Proofs.YtnhniajfnmdnnaaDoor
