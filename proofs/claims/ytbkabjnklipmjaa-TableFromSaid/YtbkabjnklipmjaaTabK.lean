/- What the walks of layer 6's laws stand on. -/
import Derived.Test.YtbkabjnklipmjaaTabJ
import Derived.Test.YtbkabjnklipmjaaTabF
namespace Go.Proofs.Ytbkabjnklipmjaa
end Go.Proofs.Ytbkabjnklipmjaa
