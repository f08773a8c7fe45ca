/- Contracts of the document's own answer for layer 9 (when): Count, SameDay, slots, Meet, Gap. -/
import Derived.Test.YtfnjnkmdifigdaaDoorWhnS
namespace Go.Proofs.YtfnjnkmdifigdaaDoor
open Go.RowKit
open Whn (Gr Wh)

end Go.Proofs.YtfnjnkmdifigdaaDoor
