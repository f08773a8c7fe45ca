/- What all loads of a course that came in are (layer 14). -/
import Derived.Test.YtgkplcipplpobaaCrtL
import Derived.Test.YtgkplcipplpobaaCrsN
import Derived.Test.YtgkplcipplpobaaCrsM
namespace Go.Proofs.Ytgkplcipplpobaa
open Go.RowKit
open Whn (Gr Wh)

theorem loads_ok (l : List ClA) {x : Cs} (hl : Wsok x.ws) : Lsok (loadsC l x) := by
  refine ⟨Nat.le_trans loads_few (Nat.le_trans (cntN_le _ _) (by unfold maxLen; omega)), fun r hr => ?_⟩
  unfold loadsC at hr
  split at hr
  · obtain ⟨u, hu, h⟩ := List.mem_flatMap.1 hr
    have hra := (List.mem_filter.1 h).1
    have hlu := hl.2 u hu
    refine ⟨by rw [allN_row hra]; exact hlu.1, fun n hn => ?_⟩
    obtain ⟨p, hp, hnp⟩ := allN_mem hra n hn
    exact (hlu.2 p hp).2 n hnp
  · cases hr
theorem same_rows (A A2 : Option Addr) (c c2 : Nat) (ls : List (List Int)) (hl : Lsok ls) (X : World) (h : Rows2 X X.heap.size A ls) (h2 : Rows2 X X.heap.size A2 ls) : Calls Try.prog 19 #[.slice A ls.length c, .slice A2 ls.length c2] X (Did (.bool true) X) := by
  have := r_Rows A A2 c c2 ls ls hl X h h2
  rw [decide_eq_true rfl] at this
  exact this
end Go.Proofs.Ytgkplcipplpobaa
