/- What the walk of PairNever imports (layer 15): cuts. -/
import Derived.Test.YtnhniajfnmdnnaaDoorPaiQ
import Derived.Deep.DeepCutAuto
namespace Go.Proofs.YtnhniajfnmdnnaaDoor
end Go.Proofs.YtnhniajfnmdnnaaDoor
