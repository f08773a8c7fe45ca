/- The zero literal of a table (layer 6). -/
import Derived.Test.YtbkabjnklipmjaaTabS
namespace Go.Proofs.Ytbkabjnklipmjaa
open Go.RowKit Go.Shelf
theorem p_zero (w : World) : TbNew w.heap.size [] w (w.alloc (.cells #[.pointer none] 28)) := tb_zero w
theorem o_zero (w : World) : TbO w.heap.size (w.alloc (.cells #[.pointer none] 28)) w.heap.size [] ∧ Below w.heap.size w (w.alloc (.cells #[.pointer none] 28)) := by
  obtain ⟨⟨F, h1, h2⟩, h3⟩ := p_zero w
  exact ⟨⟨F, h1, h2⟩, h3⟩
end Go.Proofs.Ytbkabjnklipmjaa
