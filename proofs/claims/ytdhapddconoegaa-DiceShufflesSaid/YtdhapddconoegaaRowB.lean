/- The document's answer for 'the same bytes?' (ref03.Same); bytes' cells. -/
import Derived.Test.YtdhapddconoegaaRow
namespace Go.Proofs.Ytdhapddconoegaa
open Go.RowKit
theorem Try.info_u8 : (Try.prog.info? 5).map (fun i => (i.zero, i.size, i.bytes)) = some (some (.int .u8 0), 1, 1) := by kernel_rfl
end Go.Proofs.Ytdhapddconoegaa
