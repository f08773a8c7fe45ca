/- The landed code's own functions meet what the laws of layer 15 ask of them. -/
import Derived.Test.YtnhniajfnmdnnaaDoorPaiJ
import Derived.Test.YtnhniajfnmdnnaaDoorPaiO
namespace Go.Proofs.YtnhniajfnmdnnaaDoor
open Go.RowKit
open Whn (Gr Wh)

theorem own15 : Own where
  holds := fun g k n x y walk X _ _ _ hx hy hT => p_HoldsP g k n x y walk hx.1 hy.1 X hT.1
  never := fun g k n x y walk X _ _ _ hx hy hT => p_NeverP g k n x y walk hx.1 hy.1 X hT.1
  known := fun k X _ => p_KnownP k X
  needs := fun k X _ => p_NeedsP k X
  turns := fun k X _ => p_TurnsP k X
  name := fun k X hk hT => p_NameP k hk X hT.2
  kind := fun s X hs hT => p_KindP s hs X hT.2
end Go.Proofs.YtnhniajfnmdnnaaDoor
