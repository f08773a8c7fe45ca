/- Contracts of the document's own answer for layer 11 (room): Closed. -/
import Derived.Test.YtodhpdaoghbmcaaRomL
import Derived.Handy
namespace Go.Proofs.Ytodhpdaoghbmcaa
open Go.RowKit
open Whn (Gr Wh)

abbrev zr : Value := .agg #[.string ⟨#[]⟩, .int .i64 0, .int .u16 0, .slice none 0 0]
end Go.Proofs.Ytodhpdaoghbmcaa
