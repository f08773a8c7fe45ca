/-
  NARROWER THAN 'FOR EVERY INPUT', by the rows' own cells (each row's printed sentence says how): WhenMeets: laid · WhenTells: laid · WhenNumbers: laid · WhenPairs: laid · WhenApart: laid.
  DERIVED. THE GIVEN ROWS OF THIS SEAT. 5 by the template 'for every input the law returns true; each argument reads behind the call as it read before'; 0 by the template 'total and deterministic' (their statements: YtcdldgmgmbopdaaDoorTotals.lean).
  GIVEN WITH THE SEED: the statements are not yours to turn. If you find one false, say at which input.
  Laid BY PROGRAM, IN A SANDBOX (cutbox-rows.mjs): the forced cells as the released guide's own fill.sh prints them over the translation 4129476132926790… (all of the seat's roots in one cut). By AI agents, Wed Nov 11 2026. No macro, syntax, notation, axiom, sorry.
-/
import Derived.Test.YtcdldgmgmbopdaaDoorChecked
import GoSem.Claim
import GoSem.ClaimJoined
import GoSem.ClaimMapViews
import Derived.JoinedTies
import Derived.KernelRfl
namespace Go.Proofs.YtcdldgmgmbopdaaDoor
/- THE CELL 'sum', in the pinned program and in every row, IS THE sha256 OF THE DUMP (.gsa) THAT YtcdldgmgmbopdaaDoorProg.lean LOADS. Nothing in Lean hashes anything: it is a label: what it is worth is what the hold of that sum in a sandbox is worth. -/
noncomputable def Tryd.pinned : Pinned := { name := "ytcdldgmgmbopdaadoor", sum := "4129476132926790cc90b1b07f542ebb61d5eaa0e8d9e0c149305785c9b736d5", checked := Tryd.checked }
namespace Rows
def none {H : Type} : Left H := { results := [], args := [] }

/- WHAT THE LISTED PACKAGE-LEVEL VARIABLES READ AS WHEN THE CALL BEGINS. Each datum BY PROGRAM (the guide's laid-datum.mjs) off the statement by which the dump's own 'gosem.cut.vars' lays the variable. In a bare row this is a premise. The card (YtcdldgmgmbopdaaDoorCards.lean) ties it to the program's text. -/
def laid_math_bits_deBruijn32tab {H : Type} : DataW H := .agg [.lit (.int .u8 0), .lit (.int .u8 1), .lit (.int .u8 28), .lit (.int .u8 2), .lit (.int .u8 29), .lit (.int .u8 14), .lit (.int .u8 24), .lit (.int .u8 3), .lit (.int .u8 30), .lit (.int .u8 22), .lit (.int .u8 20), .lit (.int .u8 15), .lit (.int .u8 25), .lit (.int .u8 17), .lit (.int .u8 4), .lit (.int .u8 8), .lit (.int .u8 31), .lit (.int .u8 27), .lit (.int .u8 13), .lit (.int .u8 23), .lit (.int .u8 21), .lit (.int .u8 19), .lit (.int .u8 16), .lit (.int .u8 7), .lit (.int .u8 26), .lit (.int .u8 12), .lit (.int .u8 18), .lit (.int .u8 6), .lit (.int .u8 11), .lit (.int .u8 5), .lit (.int .u8 10), .lit (.int .u8 9)]

/-- 'horariumlaw09.WhenMeets': WHATEVER THE INPUT: true; the input reads as it did. -/
def whenMeetsSpec : ChangeSpec := { name := "whenMeets", fn := fun _ => fun
  | [d1, d2, d3] => { results := [.lit (.bool true)], args := [d1, d2, d3] }
  | _ => none }
def whenMeetsRow : OpenClaim := { program := "ytcdldgmgmbopdaadoor", sum := "4129476132926790cc90b1b07f542ebb61d5eaa0e8d9e0c149305785c9b736d5", func := "horarium/horariumlaw09.WhenMeets", spec := "whenMeets", named := ["math/bits.deBruijn32tab"], apart := false, laid := [("math/bits.deBruijn32tab", laid_math_bits_deBruijn32tab)] }
def WhenMeetsSaid : Prop := whenMeetsRow.holds Tryd.pinned (OpenSpec.ofChange whenMeetsSpec)

/-- ITS FALSE NEIGHBOUR: 'it returns false'. Refute it at one input. -/
def whenMeetsWrong : ChangeSpec := { name := "whenMeets", fn := fun _ => fun
  | [d1, d2, d3] => { results := [.lit (.bool false)], args := [d1, d2, d3] }
  | _ => none }
def WhenMeetsWrongFalsely : Prop := whenMeetsRow.holds Tryd.pinned (OpenSpec.ofChange whenMeetsWrong)

/-- 'horariumlaw09.WhenTells': WHATEVER THE INPUT: true; the input reads as it did. -/
def whenTellsSpec : ChangeSpec := { name := "whenTells", fn := fun _ => fun
  | [d1, d2] => { results := [.lit (.bool true)], args := [d1, d2] }
  | _ => none }
def whenTellsRow : OpenClaim := { program := "ytcdldgmgmbopdaadoor", sum := "4129476132926790cc90b1b07f542ebb61d5eaa0e8d9e0c149305785c9b736d5", func := "horarium/horariumlaw09.WhenTells", spec := "whenTells", named := ["math/bits.deBruijn32tab"], apart := false, laid := [("math/bits.deBruijn32tab", laid_math_bits_deBruijn32tab)] }
def WhenTellsSaid : Prop := whenTellsRow.holds Tryd.pinned (OpenSpec.ofChange whenTellsSpec)

/-- ITS FALSE NEIGHBOUR: 'it returns false'. Refute it at one input. -/
def whenTellsWrong : ChangeSpec := { name := "whenTells", fn := fun _ => fun
  | [d1, d2] => { results := [.lit (.bool false)], args := [d1, d2] }
  | _ => none }
def WhenTellsWrongFalsely : Prop := whenTellsRow.holds Tryd.pinned (OpenSpec.ofChange whenTellsWrong)

/-- 'horariumlaw09.WhenNumbers': WHATEVER THE INPUT: true; the input reads as it did. -/
def whenNumbersSpec : ChangeSpec := { name := "whenNumbers", fn := fun _ => fun
  | [d1, d2, d3] => { results := [.lit (.bool true)], args := [d1, d2, d3] }
  | _ => none }
def whenNumbersRow : OpenClaim := { program := "ytcdldgmgmbopdaadoor", sum := "4129476132926790cc90b1b07f542ebb61d5eaa0e8d9e0c149305785c9b736d5", func := "horarium/horariumlaw09.WhenNumbers", spec := "whenNumbers", named := ["math/bits.deBruijn32tab"], apart := false, laid := [("math/bits.deBruijn32tab", laid_math_bits_deBruijn32tab)] }
def WhenNumbersSaid : Prop := whenNumbersRow.holds Tryd.pinned (OpenSpec.ofChange whenNumbersSpec)

/-- ITS FALSE NEIGHBOUR: 'it returns false'. Refute it at one input. -/
def whenNumbersWrong : ChangeSpec := { name := "whenNumbers", fn := fun _ => fun
  | [d1, d2, d3] => { results := [.lit (.bool false)], args := [d1, d2, d3] }
  | _ => none }
def WhenNumbersWrongFalsely : Prop := whenNumbersRow.holds Tryd.pinned (OpenSpec.ofChange whenNumbersWrong)

/-- 'horariumlaw09.WhenPairs': WHATEVER THE INPUT: true; the input reads as it did. -/
def whenPairsSpec : ChangeSpec := { name := "whenPairs", fn := fun _ => fun
  | [d1, d2] => { results := [.lit (.bool true)], args := [d1, d2] }
  | _ => none }
def whenPairsRow : OpenClaim := { program := "ytcdldgmgmbopdaadoor", sum := "4129476132926790cc90b1b07f542ebb61d5eaa0e8d9e0c149305785c9b736d5", func := "horarium/horariumlaw09.WhenPairs", spec := "whenPairs", named := ["math/bits.deBruijn32tab"], apart := false, laid := [("math/bits.deBruijn32tab", laid_math_bits_deBruijn32tab)] }
def WhenPairsSaid : Prop := whenPairsRow.holds Tryd.pinned (OpenSpec.ofChange whenPairsSpec)

/-- ITS FALSE NEIGHBOUR: 'it returns false'. Refute it at one input. -/
def whenPairsWrong : ChangeSpec := { name := "whenPairs", fn := fun _ => fun
  | [d1, d2] => { results := [.lit (.bool false)], args := [d1, d2] }
  | _ => none }
def WhenPairsWrongFalsely : Prop := whenPairsRow.holds Tryd.pinned (OpenSpec.ofChange whenPairsWrong)

/-- 'horariumlaw09.WhenApart': WHATEVER THE INPUT: true; the input reads as it did. -/
def whenApartSpec : ChangeSpec := { name := "whenApart", fn := fun _ => fun
  | [d1, d2] => { results := [.lit (.bool true)], args := [d1, d2] }
  | _ => none }
def whenApartRow : OpenClaim := { program := "ytcdldgmgmbopdaadoor", sum := "4129476132926790cc90b1b07f542ebb61d5eaa0e8d9e0c149305785c9b736d5", func := "horarium/horariumlaw09.WhenApart", spec := "whenApart", named := ["math/bits.deBruijn32tab"], apart := false, laid := [("math/bits.deBruijn32tab", laid_math_bits_deBruijn32tab)] }
def WhenApartSaid : Prop := whenApartRow.holds Tryd.pinned (OpenSpec.ofChange whenApartSpec)

/-- ITS FALSE NEIGHBOUR: 'it returns false'. Refute it at one input. -/
def whenApartWrong : ChangeSpec := { name := "whenApart", fn := fun _ => fun
  | [d1, d2] => { results := [.lit (.bool false)], args := [d1, d2] }
  | _ => none }
def WhenApartWrongFalsely : Prop := whenApartRow.holds Tryd.pinned (OpenSpec.ofChange whenApartWrong)

/- THE SECOND FORM. 'bulk': how many values and letters a reading holds, each counted each time it is reached (what is shared counts as often as it is met; a slice's spare places count too). A statement '..UptoSaid' is the law's where the arguments, and the package variables that the reading takes, are together of bulk at most 1048576: NARROWER than '..Said'. Prove '..Said' where nothing that the law and all that it calls make is longer than what came in: it says more and counts as full. Else prove '..UptoSaid'. A law counts once. -/
mutual
def uptoBulk {H : Type} : DataW H → Nat
  | .lit (.string bytes) => bytes.length + 1
  | .lit _ => 1
  | .nil => 1
  | .ptr d => uptoBulk d + 1
  | .slice elems spare => uptoBulkAll elems + uptoBulkAll spare + 1
  | .agg parts => uptoBulkAll parts + 1
  | .iface _ d => uptoBulk d + 1
  | .map entries => uptoBulkEntries entries + 1
  | .held _ => 1
def uptoBulkAll {H : Type} : List (DataW H) → Nat
  | [] => 0
  | d :: r => uptoBulk d + uptoBulkAll r
def uptoBulkEntries {H : Type} : List (Lit × DataW H) → Nat
  | [] => 0
  | x :: r => uptoBulkEntry x + uptoBulkEntries r
def uptoBulkEntry {H : Type} : Lit × DataW H → Nat
  | (.string bytes, d) => bytes.length + uptoBulk d + 1
  | (_, d) => uptoBulk d + 1
 end
def uptoSmall : (H : Type) → List (DataW H) → Bool := fun _ ds => decide (uptoBulkAll ds ≤ 1048576)
def OpenSpec.upto (s : _root_.Go.ChangeSpec) : _root_.Go.OpenSpec := { _root_.Go.OpenSpec.ofChange s with cond := some uptoSmall }

/-- 'horariumlaw09.WhenMeets', WHERE WHAT IT READS IS OF BULK AT MOST 1048576: true; the input reads as it did. -/
def whenMeetsUptoRow : OpenClaim := { program := "ytcdldgmgmbopdaadoor", sum := "4129476132926790cc90b1b07f542ebb61d5eaa0e8d9e0c149305785c9b736d5", func := "horarium/horariumlaw09.WhenMeets", spec := "whenMeets", named := ["math/bits.deBruijn32tab"], apart := false, laid := [("math/bits.deBruijn32tab", laid_math_bits_deBruijn32tab)], narrowed := true }
def WhenMeetsUptoSaid : Prop := whenMeetsUptoRow.holds Tryd.pinned (OpenSpec.upto whenMeetsSpec)

/-- 'horariumlaw09.WhenTells', WHERE WHAT IT READS IS OF BULK AT MOST 1048576: true; the input reads as it did. -/
def whenTellsUptoRow : OpenClaim := { program := "ytcdldgmgmbopdaadoor", sum := "4129476132926790cc90b1b07f542ebb61d5eaa0e8d9e0c149305785c9b736d5", func := "horarium/horariumlaw09.WhenTells", spec := "whenTells", named := ["math/bits.deBruijn32tab"], apart := false, laid := [("math/bits.deBruijn32tab", laid_math_bits_deBruijn32tab)], narrowed := true }
def WhenTellsUptoSaid : Prop := whenTellsUptoRow.holds Tryd.pinned (OpenSpec.upto whenTellsSpec)

/-- 'horariumlaw09.WhenNumbers', WHERE WHAT IT READS IS OF BULK AT MOST 1048576: true; the input reads as it did. -/
def whenNumbersUptoRow : OpenClaim := { program := "ytcdldgmgmbopdaadoor", sum := "4129476132926790cc90b1b07f542ebb61d5eaa0e8d9e0c149305785c9b736d5", func := "horarium/horariumlaw09.WhenNumbers", spec := "whenNumbers", named := ["math/bits.deBruijn32tab"], apart := false, laid := [("math/bits.deBruijn32tab", laid_math_bits_deBruijn32tab)], narrowed := true }
def WhenNumbersUptoSaid : Prop := whenNumbersUptoRow.holds Tryd.pinned (OpenSpec.upto whenNumbersSpec)

/-- 'horariumlaw09.WhenPairs', WHERE WHAT IT READS IS OF BULK AT MOST 1048576: true; the input reads as it did. -/
def whenPairsUptoRow : OpenClaim := { program := "ytcdldgmgmbopdaadoor", sum := "4129476132926790cc90b1b07f542ebb61d5eaa0e8d9e0c149305785c9b736d5", func := "horarium/horariumlaw09.WhenPairs", spec := "whenPairs", named := ["math/bits.deBruijn32tab"], apart := false, laid := [("math/bits.deBruijn32tab", laid_math_bits_deBruijn32tab)], narrowed := true }
def WhenPairsUptoSaid : Prop := whenPairsUptoRow.holds Tryd.pinned (OpenSpec.upto whenPairsSpec)

/-- 'horariumlaw09.WhenApart', WHERE WHAT IT READS IS OF BULK AT MOST 1048576: true; the input reads as it did. -/
def whenApartUptoRow : OpenClaim := { program := "ytcdldgmgmbopdaadoor", sum := "4129476132926790cc90b1b07f542ebb61d5eaa0e8d9e0c149305785c9b736d5", func := "horarium/horariumlaw09.WhenApart", spec := "whenApart", named := ["math/bits.deBruijn32tab"], apart := false, laid := [("math/bits.deBruijn32tab", laid_math_bits_deBruijn32tab)], narrowed := true }
def WhenApartUptoSaid : Prop := whenApartUptoRow.holds Tryd.pinned (OpenSpec.upto whenApartSpec)

end Rows
end Go.Proofs.YtcdldgmgmbopdaaDoor
