/- Contracts of layer 10 (clock): Days, ParseDays. -/
import Derived.Test.YtfnjnkmdifigdaaDoorBldR
import Derived.Test.YtfnjnkmdifigdaaDoorClkR
import Derived.Test.YtfnjnkmdifigdaaDoorClkW
import Derived.Test.YtfnjnkmdifigdaaDoorBop
import Derived.BigCall
namespace Go.Proofs.YtfnjnkmdifigdaaDoor
open Go.RowKit

theorem let_get (k : Nat) (hk : k < 7) : ((⟨#[109, 116, 119, 104, 102, 115, 117]⟩ : ByteArray)[k]'(by show k < 7; exact hk)) = Clk.letters.getD k 0 ∧ (Clk.letters.getD k 0).toNat < 128 := by
  have : k = 0 ∨ k = 1 ∨ k = 2 ∨ k = 3 ∨ k = 4 ∨ k = 5 ∨ k = 6 := by omega
  rcases this with rfl | rfl | rfl | rfl | rfl | rfl | rfl <;> exact ⟨rfl, by decide⟩
theorem iter_pos {w : World} {k : Nat} {s : ByteArray} {pos : Nat} (h : w.heap[k]? = some (.stringIter s pos)) : w.iterPos k = pos := by simp only [World.iterPos, h]
set_option maxRecDepth 1000000 in
set_option maxHeartbeats 1000000 in
theorem p_Days (d : Nat) (hd : d < 256) (w : World) : Calls Tryd.prog 22 #[.int .u8 (d : Int)] w (Did (txt (Clk.dt d)) w) := by
  have HG := hid let_get
  go_enter Tryd.func22, Tryd.ntmps22
  go_wp2_with fail
  go_loopw [] (fun wr => ∃ k : Nat, k ≤ 7 ∧ Lib.IsBuilderF 75 5 w.heap.size w.heap.size (Lib.byteCells (Clk.dtk d k)) wr ∧ wr.heap[w.heap.size + 1]? = some (.stringIter ⟨#[109, 116, 119, 104, 102, 115, 117]⟩ k) ∧ Below w.heap.size w wr) (fun wr => 7 - wr.iterPos (w.heap.size + 1))
  case atStart =>
    refine ⟨0, by omega, (Lib.IsBuilderF.of (Lib.fresh_isBuilder 75 5 w)).alloc _, ?_, ((Below.refl _ w).alloc (Nat.le_refl _) _).alloc (by simp) _⟩
    have := World.iter_heap (w.alloc (.cells #[.pointer none, .slice none 0 0] 75)) ⟨#[109, 116, 119, 104, 102, 115, 117]⟩ 0
    simpa using this
  case round =>
    obtain ⟨k, hk, hI, hit, hbw⟩ := hrel
    have hsz : w.heap.size + 1 < wr.heap.size := (Array.getElem?_eq_some_iff.1 hit).1
    by_cases hp : k < 7
    · obtain ⟨hc1, hc2⟩ := HG.out k hp
      have hnx : ∀ ty, (Instr.next (.pointer (some ⟨w.heap.size + 1, 0, none⟩)) true ty).run Tryd.prog wr = .ok (.tuple #[.bool true, .int .i64 k, .int .i32 ((Clk.letters.getD k 0).toNat : Int)]) (wr.iterAt (w.heap.size + 1) ⟨#[109, 116, 119, 104, 102, 115, 117]⟩ (k + 1)) := fun ty => by
        have := Lib.run_next_ascii_at (P := Tryd.prog) wr (w.heap.size + 1) ⟨#[109, 116, 119, 104, 102, 115, 117]⟩ k ty hit hp (by rw [hc1]; exact hc2)
        rw [hc1] at this
        exact this
      have hI2 := hI.iterAt hit (k + 1)
      have hit2 := Lib.iterAt_heap wr (w.heap.size + 1) _ k (k + 1) hit
      have hbw2 := Lib.below_iterAt hbw (k := w.heap.size + 1) (by omega) ⟨#[109, 116, 119, 104, 102, 115, 117]⟩ (k + 1)
      have hsz2 : w.heap.size ≤ (wr.iterAt (w.heap.size + 1) ⟨#[109, 116, 119, 104, 102, 115, 117]⟩ (k + 1)).heap.size := by rw [Lib.iterAt_size]; omega
      have hl := dtk_len d k
      have Hs := hid (dtk_succ d k)
      have Hw := hid (b_WriteRune w.heap.size w.heap.size _ _ hc2 _ hI2 (by omega) hsz2)
      have HI2 := hid hI2
      have hp0 := iter_pos hit
      have hb := o_bit8 d k hd
      clear hI hbw hI2 hc1
      generalize (wr.iterAt (w.heap.size + 1) ⟨#[109, 116, 119, 104, 102, 115, 117]⟩ (k + 1)) = W1 at *
      generalize Clk.letters.getD k 0 = c at *
      cases hbit : d.testBit k with
      | true =>
        rw [hbit] at hb
        rw [hbit, if_pos rfl] at Hs
        clear hbit
        go_wp2_with fail
        refine (Hw.out).mono ?_
        rintro e W2 ⟨rfl, h1, b1, k1⟩
        have hit3 := k1.iter hit2 (by omega)
        go_wp2_with fail
        exact ⟨⟨k + 1, by omega, by rw [Hs.out]; exact h1, hit3, hbw2.trans b1⟩, by rw [iter_pos hit3, hp0]; omega⟩
      | false =>
        rw [hbit] at hb
        rw [hbit, if_neg (by decide), List.append_nil] at Hs
        clear hbit
        go_wp2_with fail
        exact ⟨⟨k + 1, by omega, by rw [Hs.out]; exact HI2.out, hit2, hbw2⟩, by rw [iter_pos hit2, hp0]; omega⟩
    · obtain rfl : k = 7 := by omega
      have hnx : ∀ ty, (Instr.next (.pointer (some ⟨w.heap.size + 1, 0, none⟩)) true ty).run Tryd.prog wr = .ok (.tuple #[.bool false]) wr := fun ty => Lib.run_next_end_at (P := Tryd.prog) wr (w.heap.size + 1) ⟨#[109, 116, 119, 104, 102, 115, 117]⟩ 7 ty hit (by decide)
      have Hs := hid (Tryd.Builder_String_any_k w.heap.size w.heap.size (Clk.dtk d 7) wr hI (by omega))
      clear hI
      go_wp2_with fail
      refine (Hs.out).mono ?_
      rintro e W1 ⟨rfl, _, b1, _⟩
      go_wp2_with fail
      go_ret
      exact Did.mk rfl (hbw.trans b1)
end Go.Proofs.YtfnjnkmdifigdaaDoor
