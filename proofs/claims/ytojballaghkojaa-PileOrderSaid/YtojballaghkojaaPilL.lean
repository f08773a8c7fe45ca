/- The zero literal of a pile (layer 7). -/
import Derived.Test.YtojballaghkojaaPilI
namespace Go.Proofs.Ytojballaghkojaa
open Go.RowKit Go.Shelf
open Pil (It)
theorem o_zero (w : World) : PlO w.heap.size (w.alloc (.cells #[.pointer none] 48)) w.heap.size [] ∧ Below w.heap.size w (w.alloc (.cells #[.pointer none] 48)) := ⟨zero_pl w, below_alloc w _⟩
theorem zero_Push (w : World) (key rank : Int) (hk : I64 key) (hr : I64 rank) : Calls Try.prog 13 #[ptr w.heap.size, .int .i64 key, .int .i64 rank] (w.alloc (.cells #[.pointer none] 48)) fun e w' => e = .returned (.bool true) ∧ PlO w.heap.size w' w.heap.size [(key, rank)] ∧ Below w.heap.size w w' := by
  obtain ⟨h1, h2⟩ := o_zero w
  refine (o_Push h1 h2.size (by simp) key rank hk hr).mono ?_
  rintro e w' ⟨he, hp, hb⟩
  exact ⟨he, by simpa [Pil.push, Pil.keys, Pil.ins] using hp, h2.trans hb⟩
end Go.Proofs.Ytojballaghkojaa
