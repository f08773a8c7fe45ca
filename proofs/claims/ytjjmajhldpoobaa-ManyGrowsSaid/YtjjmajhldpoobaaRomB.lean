/- Contracts of the document's own answer for layer 11 (room): Name, Whens, Right, Meets. -/
import Derived.Test.YtjjmajhldpoobaaRomA
import Derived.Test.YtjjmajhldpoobaaWh1
namespace Go.Proofs.Ytjjmajhldpoobaa
open Go.RowKit
open Whn (Gr Wh)

def nameOk (s : List UInt8) : Bool := decide (1 ≤ s.length) && decide (s.length ≤ 24)
end Go.Proofs.Ytjjmajhldpoobaa
