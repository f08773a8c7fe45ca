/- Contracts of layer 2 (word): that the chapter's examples hold. -/
import Derived.Test.YtikgaknmmbmnoaaDoorWrdE
namespace Go.Proofs.YtikgaknmmbmnoaaDoor
open Go.RowKit

theorem strs_two (w : World) (a b : List UInt8) (t : TypeId) : Strs (w.alloc (.cells #[txt a, txt b] t)) (w.alloc (.cells #[txt a, txt b] t)).heap.size (some ⟨w.heap.size, 0, none⟩) [a, b] := by
  have hown := World.ownsRow_lit (base := w.heap.size) (e := t) (size := 1) w #[txt a, txt b] 2 (Nat.le_refl _) (by unfold maxLen; omega) (by simp)
  exact Strs.of_own (n := 2) (c := 2) (ls := [a, b]) hown

theorem heads (w : World) : Calls Tryd.prog 5 #[] w fun e w' => e = .returned (.bool true) ∧ Below w.heap.size w w' := by
  have C1 := hid (fun w => p_Split ⟨#[97, 32, 32, 98]⟩ (by decide) w)
  unfold SplRet at C1
  rw [show (⟨#[97, 32, 32, 98]⟩ : ByteArray).data.toList = [97, 32, 32, 98] from rfl, Wrd.ex_1] at C1
  have C2 := hid (fun w => p_Split ⟨#[97, 37, 50, 48, 98, 32, 37]⟩ (by decide) w)
  unfold SplRet at C2
  rw [show (⟨#[97, 37, 50, 48, 98, 32, 37]⟩ : ByteArray).data.toList = [97, 37, 50, 48, 98, 32, 37] from rfl, Wrd.ex_3] at C2
  have C3 := hid (fun w => p_Unquote ⟨#[37, 54, 49]⟩ (by decide) w)
  unfold UqRet at C3
  rw [show (⟨#[37, 54, 49]⟩ : ByteArray).data.toList = [37, 54, 49] from rfl, Wrd.uq_61, show cod none = 3 from rfl] at C3
  have C4 := hid (fun A c w h => p_Join A c [[97, 32, 98], []] w h (by decide) (by decide))
  unfold JnRet at C4
  rw [Wrd.ex_2, show txt [97, 37, 50, 48, 98, 32, 37] = Value.string ⟨#[97, 37, 50, 48, 98, 32, 37]⟩ from rfl] at C4
  go_enter Tryd.func5, Tryd.ntmps5
  go_wp2_with fail
  refine (C1.out _).mono ?_
  rintro e w1 ⟨A1, c1, rfl, _, b1⟩
  go_wp2_with fail
  refine (C2.out _).mono ?_
  rintro e w2 ⟨A2, c2, rfl, s2, b2⟩
  have S2 := hid s2
  clear s2
  go_wp2_with fail
  refine (C3.out _).mono ?_
  rintro e w3 ⟨rfl, b3⟩
  go_wp2_with fail
  refine (C4.out _ _ _ (strs_two w3 [97, 32, 98] [] 9)).mono ?_
  rintro e w4 ⟨rfl, b4⟩
  have bb : Below w2.heap.size w2 w4 := (b3.alloc b3.size _).trans (b4.mono (by have := b3.size; simp; omega))
  go_wp2_with fail
  refine (p_Same A2 _ c2 2 [[97, 32, 98], []] [[97, 32, 98], []] _ _ _ ((S2.out.below bb (Nat.le_refl _)).below ((Below.refl _ _).alloc (Nat.le_refl _) _) bb.size) (strs_two w4 [97, 32, 98] [] 9) (by decide) (by decide)).mono ?_
  rintro e w5 ⟨rfl, n, rfl⟩
  go_wp2_with fail
  go_ret
  exact ⟨rfl, below_drewN ((below3 b1 b2 bb).alloc (below3 b1 b2 bb).size _) n⟩
end Go.Proofs.YtikgaknmmbmnoaaDoor
