/- Contracts of the document's own answer for layer 11 (room): Closed. -/
import Derived.Test.YteldcaebbmaemaaRomL
import Derived.Handy
namespace Go.Proofs.Yteldcaebbmaemaa
open Go.RowKit
open Whn (Gr Wh)

abbrev zr : Value := .agg #[.string ⟨#[]⟩, .int .i64 0, .int .u16 0, .slice none 0 0]
set_option maxHeartbeats 4000000 in
theorem r_Closed0 (r : Rm) (A A2 : Option Addr) (c n2 c2 : Nat) (w : World) :
    Calls Try.prog 31 #[rv r A c, .slice A2 n2 c2, .int .i64 0] w (Did (.agg #[txt r.n, .int .i64 r.s, .int .u16 (r.g : Int), .slice A2 n2 c2]) w) := by
  go_enter Try.func31, Try.ntmps31
  go_wp2_with fail
  go_returns
  exact Did.mk rfl ((below_alloc _ _).alloc (below_alloc _ _).size _)
set_option maxHeartbeats 4000000 in
theorem r_ClosedE (r : Rm) (A A2 : Option Addr) (c n2 c2 : Nat) (e : Int) (he : (e != 0) = true) (w : World) :
    Calls Try.prog 31 #[rv r A c, .slice A2 n2 c2, .int .i64 e] w (Did zr w) := by
  go_enter Try.func31, Try.ntmps31
  go_wp2_with fail
  go_returns
  exact Did.mk rfl ((below_alloc _ _).alloc (below_alloc _ _).size _)
end Go.Proofs.Yteldcaebbmaemaa
