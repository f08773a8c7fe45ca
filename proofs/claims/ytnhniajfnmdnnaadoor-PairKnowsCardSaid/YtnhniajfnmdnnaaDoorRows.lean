/-
  NARROWER THAN 'FOR EVERY INPUT', by the rows' own cells (each row's printed sentence says how): PairHolds: laid · PairNever: laid · PairKnows: laid · PairKinds: laid · PairTurns: laid · PairOthers: laid.
  DERIVED. THE GIVEN ROWS OF THIS SEAT. 6 by the template 'for every input the law returns true; each argument reads behind the call as it read before'; 0 by the template 'total and deterministic' (their statements: YtnhniajfnmdnnaaDoorTotals.lean).
  GIVEN WITH THE SEED: the statements are not yours to turn. If you find one false, say at which input.
  Laid BY PROGRAM, IN A SANDBOX (cutbox-rows.mjs): the forced cells as the released guide's own fill.sh prints them over the translation e962d783d1e72a6e… (all of the seat's roots in one cut). By AI agents, Wed Nov 11 2026. No macro, syntax, notation, axiom, sorry.
-/
import Derived.Test.YtnhniajfnmdnnaaDoorChecked
import GoSem.Claim
import GoSem.ClaimJoined
import GoSem.ClaimMapViews
import Derived.JoinedTies
import Derived.KernelRfl
namespace Go.Proofs.YtnhniajfnmdnnaaDoor
/- THE CELL 'sum', in the pinned program and in every row, IS THE sha256 OF THE DUMP (.gsa) THAT YtnhniajfnmdnnaaDoorProg.lean LOADS. Nothing in Lean hashes anything: it is a label: what it is worth is what the hold of that sum in a sandbox is worth. -/
noncomputable def Tryd.pinned : Pinned := { name := "ytnhniajfnmdnnaadoor", sum := "e962d783d1e72a6ecb4de00f9af94314b0821d2f1fdac8005cfc5dc88c0a8085", checked := Tryd.checked }
namespace Rows
def none {H : Type} : Left H := { results := [], args := [] }

/- WHAT THE LISTED PACKAGE-LEVEL VARIABLES READ AS WHEN THE CALL BEGINS. Each datum BY PROGRAM (the guide's laid-datum.mjs) off the statement by which the dump's own 'gosem.cut.vars' lays the variable. In a bare row this is a premise. The card (YtnhniajfnmdnnaaDoorCards.lean) ties it to the program's text. -/
def laid_math_bits_deBruijn32tab {H : Type} : DataW H := .agg [.lit (.int .u8 0), .lit (.int .u8 1), .lit (.int .u8 28), .lit (.int .u8 2), .lit (.int .u8 29), .lit (.int .u8 14), .lit (.int .u8 24), .lit (.int .u8 3), .lit (.int .u8 30), .lit (.int .u8 22), .lit (.int .u8 20), .lit (.int .u8 15), .lit (.int .u8 25), .lit (.int .u8 17), .lit (.int .u8 4), .lit (.int .u8 8), .lit (.int .u8 31), .lit (.int .u8 27), .lit (.int .u8 13), .lit (.int .u8 23), .lit (.int .u8 21), .lit (.int .u8 19), .lit (.int .u8 16), .lit (.int .u8 7), .lit (.int .u8 26), .lit (.int .u8 12), .lit (.int .u8 18), .lit (.int .u8 6), .lit (.int .u8 11), .lit (.int .u8 5), .lit (.int .u8 10), .lit (.int .u8 9)]
def laid_horarium_pair_names {H : Type} : DataW H := .agg [.lit (.string []), .lit (.string [115, 97, 109, 101, 115, 116, 97, 114, 116]), .lit (.string [115, 97, 109, 101, 116, 105, 109, 101]), .lit (.string [111, 116, 104, 101, 114, 116, 105, 109, 101]), .lit (.string [115, 97, 109, 101, 100, 97, 121, 115]), .lit (.string [111, 116, 104, 101, 114, 100, 97, 121, 115]), .lit (.string [115, 97, 109, 101, 119, 101, 101, 107, 115]), .lit (.string [111, 116, 104, 101, 114, 119, 101, 101, 107, 115]), .lit (.string [109, 101, 101, 116]), .lit (.string [97, 112, 97, 114, 116]), .lit (.string [115, 97, 109, 101, 114, 111, 111, 109]), .lit (.string [111, 116, 104, 101, 114, 114, 111, 111, 109]), .lit (.string [98, 101, 102, 111, 114, 101]), .lit (.string [119, 105, 116, 104, 105, 110]), .lit (.string [102, 111, 108, 107]), .lit (.string []), .lit (.string []), .lit (.string []), .lit (.string []), .lit (.string []), .lit (.string []), .lit (.string [109, 111, 115, 116, 100, 97, 121, 115]), .lit (.string [109, 111, 115, 116, 108, 111, 97, 100]), .lit (.string [109, 111, 115, 116, 98, 114, 101, 97, 107, 115]), .lit (.string [109, 111, 115, 116, 98, 108, 111, 99, 107])]

/-- 'horariumlaw15.PairHolds': WHATEVER THE INPUT: true; the input reads as it did. -/
def pairHoldsSpec : ChangeSpec := { name := "pairHolds", fn := fun _ => fun
  | [d1, d2, d3, d4, d5, d6] => { results := [.lit (.bool true)], args := [d1, d2, d3, d4, d5, d6] }
  | _ => none }
def pairHoldsRow : OpenClaim := { program := "ytnhniajfnmdnnaadoor", sum := "e962d783d1e72a6ecb4de00f9af94314b0821d2f1fdac8005cfc5dc88c0a8085", func := "horarium/horariumlaw15.PairHolds", spec := "pairHolds", unfollowed := true, recurses := true, named := ["math/bits.deBruijn32tab", "horarium/pair.names"], apart := false, laid := [("math/bits.deBruijn32tab", laid_math_bits_deBruijn32tab), ("horarium/pair.names", laid_horarium_pair_names)] }
def PairHoldsSaid : Prop := pairHoldsRow.holds Tryd.pinned (OpenSpec.ofChange pairHoldsSpec)

/-- ITS FALSE NEIGHBOUR: 'it returns false'. Refute it at one input. -/
def pairHoldsWrong : ChangeSpec := { name := "pairHolds", fn := fun _ => fun
  | [d1, d2, d3, d4, d5, d6] => { results := [.lit (.bool false)], args := [d1, d2, d3, d4, d5, d6] }
  | _ => none }
def PairHoldsWrongFalsely : Prop := pairHoldsRow.holds Tryd.pinned (OpenSpec.ofChange pairHoldsWrong)

/-- 'horariumlaw15.PairNever': WHATEVER THE INPUT: true; the input reads as it did. -/
def pairNeverSpec : ChangeSpec := { name := "pairNever", fn := fun _ => fun
  | [d1, d2, d3, d4, d5, d6] => { results := [.lit (.bool true)], args := [d1, d2, d3, d4, d5, d6] }
  | _ => none }
def pairNeverRow : OpenClaim := { program := "ytnhniajfnmdnnaadoor", sum := "e962d783d1e72a6ecb4de00f9af94314b0821d2f1fdac8005cfc5dc88c0a8085", func := "horarium/horariumlaw15.PairNever", spec := "pairNever", unfollowed := true, recurses := true, named := ["horarium/pair.names", "math/bits.deBruijn32tab"], apart := false, laid := [("math/bits.deBruijn32tab", laid_math_bits_deBruijn32tab), ("horarium/pair.names", laid_horarium_pair_names)] }
def PairNeverSaid : Prop := pairNeverRow.holds Tryd.pinned (OpenSpec.ofChange pairNeverSpec)

/-- ITS FALSE NEIGHBOUR: 'it returns false'. Refute it at one input. -/
def pairNeverWrong : ChangeSpec := { name := "pairNever", fn := fun _ => fun
  | [d1, d2, d3, d4, d5, d6] => { results := [.lit (.bool false)], args := [d1, d2, d3, d4, d5, d6] }
  | _ => none }
def PairNeverWrongFalsely : Prop := pairNeverRow.holds Tryd.pinned (OpenSpec.ofChange pairNeverWrong)

/-- 'horariumlaw15.PairKnows': WHATEVER THE INPUT: true; the input reads as it did. -/
def pairKnowsSpec : ChangeSpec := { name := "pairKnows", fn := fun _ => fun
  | [d1, d2, d3, d4, d5, d6] => { results := [.lit (.bool true)], args := [d1, d2, d3, d4, d5, d6] }
  | _ => none }
def pairKnowsRow : OpenClaim := { program := "ytnhniajfnmdnnaadoor", sum := "e962d783d1e72a6ecb4de00f9af94314b0821d2f1fdac8005cfc5dc88c0a8085", func := "horarium/horariumlaw15.PairKnows", spec := "pairKnows", unfollowed := true, recurses := true, named := ["math/bits.deBruijn32tab", "horarium/pair.names"], apart := false, laid := [("math/bits.deBruijn32tab", laid_math_bits_deBruijn32tab), ("horarium/pair.names", laid_horarium_pair_names)] }
def PairKnowsSaid : Prop := pairKnowsRow.holds Tryd.pinned (OpenSpec.ofChange pairKnowsSpec)

/-- ITS FALSE NEIGHBOUR: 'it returns false'. Refute it at one input. -/
def pairKnowsWrong : ChangeSpec := { name := "pairKnows", fn := fun _ => fun
  | [d1, d2, d3, d4, d5, d6] => { results := [.lit (.bool false)], args := [d1, d2, d3, d4, d5, d6] }
  | _ => none }
def PairKnowsWrongFalsely : Prop := pairKnowsRow.holds Tryd.pinned (OpenSpec.ofChange pairKnowsWrong)

/-- 'horariumlaw15.PairKinds': WHATEVER THE INPUT: true; the input reads as it did. -/
def pairKindsSpec : ChangeSpec := { name := "pairKinds", fn := fun _ => fun
  | [d1, d2] => { results := [.lit (.bool true)], args := [d1, d2] }
  | _ => none }
def pairKindsRow : OpenClaim := { program := "ytnhniajfnmdnnaadoor", sum := "e962d783d1e72a6ecb4de00f9af94314b0821d2f1fdac8005cfc5dc88c0a8085", func := "horarium/horariumlaw15.PairKinds", spec := "pairKinds", unfollowed := true, recurses := true, named := ["horarium/pair.names", "math/bits.deBruijn32tab"], apart := false, laid := [("math/bits.deBruijn32tab", laid_math_bits_deBruijn32tab), ("horarium/pair.names", laid_horarium_pair_names)] }
def PairKindsSaid : Prop := pairKindsRow.holds Tryd.pinned (OpenSpec.ofChange pairKindsSpec)

/-- ITS FALSE NEIGHBOUR: 'it returns false'. Refute it at one input. -/
def pairKindsWrong : ChangeSpec := { name := "pairKinds", fn := fun _ => fun
  | [d1, d2] => { results := [.lit (.bool false)], args := [d1, d2] }
  | _ => none }
def PairKindsWrongFalsely : Prop := pairKindsRow.holds Tryd.pinned (OpenSpec.ofChange pairKindsWrong)

/-- 'horariumlaw15.PairTurns': WHATEVER THE INPUT: true; the input reads as it did. -/
def pairTurnsSpec : ChangeSpec := { name := "pairTurns", fn := fun _ => fun
  | [d1, d2, d3, d4, d5, d6] => { results := [.lit (.bool true)], args := [d1, d2, d3, d4, d5, d6] }
  | _ => none }
def pairTurnsRow : OpenClaim := { program := "ytnhniajfnmdnnaadoor", sum := "e962d783d1e72a6ecb4de00f9af94314b0821d2f1fdac8005cfc5dc88c0a8085", func := "horarium/horariumlaw15.PairTurns", spec := "pairTurns", unfollowed := true, recurses := true, named := ["math/bits.deBruijn32tab", "horarium/pair.names"], apart := false, laid := [("math/bits.deBruijn32tab", laid_math_bits_deBruijn32tab), ("horarium/pair.names", laid_horarium_pair_names)] }
def PairTurnsSaid : Prop := pairTurnsRow.holds Tryd.pinned (OpenSpec.ofChange pairTurnsSpec)

/-- ITS FALSE NEIGHBOUR: 'it returns false'. Refute it at one input. -/
def pairTurnsWrong : ChangeSpec := { name := "pairTurns", fn := fun _ => fun
  | [d1, d2, d3, d4, d5, d6] => { results := [.lit (.bool false)], args := [d1, d2, d3, d4, d5, d6] }
  | _ => none }
def PairTurnsWrongFalsely : Prop := pairTurnsRow.holds Tryd.pinned (OpenSpec.ofChange pairTurnsWrong)

/-- 'horariumlaw15.PairOthers': WHATEVER THE INPUT: true; the input reads as it did. -/
def pairOthersSpec : ChangeSpec := { name := "pairOthers", fn := fun _ => fun
  | [d1, d2, d3] => { results := [.lit (.bool true)], args := [d1, d2, d3] }
  | _ => none }
def pairOthersRow : OpenClaim := { program := "ytnhniajfnmdnnaadoor", sum := "e962d783d1e72a6ecb4de00f9af94314b0821d2f1fdac8005cfc5dc88c0a8085", func := "horarium/horariumlaw15.PairOthers", spec := "pairOthers", unfollowed := true, recurses := true, named := ["math/bits.deBruijn32tab", "horarium/pair.names"], apart := false, laid := [("math/bits.deBruijn32tab", laid_math_bits_deBruijn32tab), ("horarium/pair.names", laid_horarium_pair_names)] }
def PairOthersSaid : Prop := pairOthersRow.holds Tryd.pinned (OpenSpec.ofChange pairOthersSpec)

/-- ITS FALSE NEIGHBOUR: 'it returns false'. Refute it at one input. -/
def pairOthersWrong : ChangeSpec := { name := "pairOthers", fn := fun _ => fun
  | [d1, d2, d3] => { results := [.lit (.bool false)], args := [d1, d2, d3] }
  | _ => none }
def PairOthersWrongFalsely : Prop := pairOthersRow.holds Tryd.pinned (OpenSpec.ofChange pairOthersWrong)

/- THE SECOND FORM. 'bulk': how many values and letters a reading holds, each counted each time it is reached (what is shared counts as often as it is met; a slice's spare places count too). A statement '..UptoSaid' is the law's where the arguments, and the package variables that the reading takes, are together of bulk at most 1048576: NARROWER than '..Said'. Prove '..Said' where nothing that the law and all that it calls make is longer than what came in: it says more and counts as full. Else prove '..UptoSaid'. A law counts once. -/
mutual
def uptoBulk {H : Type} : DataW H → Nat
  | .lit (.string bytes) => bytes.length + 1
  | .lit _ => 1
  | .nil => 1
  | .ptr d => uptoBulk d + 1
  | .slice elems spare => uptoBulkAll elems + uptoBulkAll spare + 1
  | .agg parts => uptoBulkAll parts + 1
  | .iface _ d => uptoBulk d + 1
  | .map entries => uptoBulkEntries entries + 1
  | .held _ => 1
def uptoBulkAll {H : Type} : List (DataW H) → Nat
  | [] => 0
  | d :: r => uptoBulk d + uptoBulkAll r
def uptoBulkEntries {H : Type} : List (Lit × DataW H) → Nat
  | [] => 0
  | x :: r => uptoBulkEntry x + uptoBulkEntries r
def uptoBulkEntry {H : Type} : Lit × DataW H → Nat
  | (.string bytes, d) => bytes.length + uptoBulk d + 1
  | (_, d) => uptoBulk d + 1
 end
def uptoSmall : (H : Type) → List (DataW H) → Bool := fun _ ds => decide (uptoBulkAll ds ≤ 1048576)
def OpenSpec.upto (s : _root_.Go.ChangeSpec) : _root_.Go.OpenSpec := { _root_.Go.OpenSpec.ofChange s with cond := some uptoSmall }

/-- 'horariumlaw15.PairHolds', WHERE WHAT IT READS IS OF BULK AT MOST 1048576: true; the input reads as it did. -/
def pairHoldsUptoRow : OpenClaim := { program := "ytnhniajfnmdnnaadoor", sum := "e962d783d1e72a6ecb4de00f9af94314b0821d2f1fdac8005cfc5dc88c0a8085", func := "horarium/horariumlaw15.PairHolds", spec := "pairHolds", unfollowed := true, recurses := true, named := ["math/bits.deBruijn32tab", "horarium/pair.names"], apart := false, laid := [("math/bits.deBruijn32tab", laid_math_bits_deBruijn32tab), ("horarium/pair.names", laid_horarium_pair_names)], narrowed := true }
def PairHoldsUptoSaid : Prop := pairHoldsUptoRow.holds Tryd.pinned (OpenSpec.upto pairHoldsSpec)

/-- 'horariumlaw15.PairNever', WHERE WHAT IT READS IS OF BULK AT MOST 1048576: true; the input reads as it did. -/
def pairNeverUptoRow : OpenClaim := { program := "ytnhniajfnmdnnaadoor", sum := "e962d783d1e72a6ecb4de00f9af94314b0821d2f1fdac8005cfc5dc88c0a8085", func := "horarium/horariumlaw15.PairNever", spec := "pairNever", unfollowed := true, recurses := true, named := ["horarium/pair.names", "math/bits.deBruijn32tab"], apart := false, laid := [("math/bits.deBruijn32tab", laid_math_bits_deBruijn32tab), ("horarium/pair.names", laid_horarium_pair_names)], narrowed := true }
def PairNeverUptoSaid : Prop := pairNeverUptoRow.holds Tryd.pinned (OpenSpec.upto pairNeverSpec)

/-- 'horariumlaw15.PairKnows', WHERE WHAT IT READS IS OF BULK AT MOST 1048576: true; the input reads as it did. -/
def pairKnowsUptoRow : OpenClaim := { program := "ytnhniajfnmdnnaadoor", sum := "e962d783d1e72a6ecb4de00f9af94314b0821d2f1fdac8005cfc5dc88c0a8085", func := "horarium/horariumlaw15.PairKnows", spec := "pairKnows", unfollowed := true, recurses := true, named := ["math/bits.deBruijn32tab", "horarium/pair.names"], apart := false, laid := [("math/bits.deBruijn32tab", laid_math_bits_deBruijn32tab), ("horarium/pair.names", laid_horarium_pair_names)], narrowed := true }
def PairKnowsUptoSaid : Prop := pairKnowsUptoRow.holds Tryd.pinned (OpenSpec.upto pairKnowsSpec)

/-- 'horariumlaw15.PairKinds', WHERE WHAT IT READS IS OF BULK AT MOST 1048576: true; the input reads as it did. -/
def pairKindsUptoRow : OpenClaim := { program := "ytnhniajfnmdnnaadoor", sum := "e962d783d1e72a6ecb4de00f9af94314b0821d2f1fdac8005cfc5dc88c0a8085", func := "horarium/horariumlaw15.PairKinds", spec := "pairKinds", unfollowed := true, recurses := true, named := ["horarium/pair.names", "math/bits.deBruijn32tab"], apart := false, laid := [("math/bits.deBruijn32tab", laid_math_bits_deBruijn32tab), ("horarium/pair.names", laid_horarium_pair_names)], narrowed := true }
def PairKindsUptoSaid : Prop := pairKindsUptoRow.holds Tryd.pinned (OpenSpec.upto pairKindsSpec)

/-- 'horariumlaw15.PairTurns', WHERE WHAT IT READS IS OF BULK AT MOST 1048576: true; the input reads as it did. -/
def pairTurnsUptoRow : OpenClaim := { program := "ytnhniajfnmdnnaadoor", sum := "e962d783d1e72a6ecb4de00f9af94314b0821d2f1fdac8005cfc5dc88c0a8085", func := "horarium/horariumlaw15.PairTurns", spec := "pairTurns", unfollowed := true, recurses := true, named := ["math/bits.deBruijn32tab", "horarium/pair.names"], apart := false, laid := [("math/bits.deBruijn32tab", laid_math_bits_deBruijn32tab), ("horarium/pair.names", laid_horarium_pair_names)], narrowed := true }
def PairTurnsUptoSaid : Prop := pairTurnsUptoRow.holds Tryd.pinned (OpenSpec.upto pairTurnsSpec)

/-- 'horariumlaw15.PairOthers', WHERE WHAT IT READS IS OF BULK AT MOST 1048576: true; the input reads as it did. -/
def pairOthersUptoRow : OpenClaim := { program := "ytnhniajfnmdnnaadoor", sum := "e962d783d1e72a6ecb4de00f9af94314b0821d2f1fdac8005cfc5dc88c0a8085", func := "horarium/horariumlaw15.PairOthers", spec := "pairOthers", unfollowed := true, recurses := true, named := ["math/bits.deBruijn32tab", "horarium/pair.names"], apart := false, laid := [("math/bits.deBruijn32tab", laid_math_bits_deBruijn32tab), ("horarium/pair.names", laid_horarium_pair_names)], narrowed := true }
def PairOthersUptoSaid : Prop := pairOthersUptoRow.holds Tryd.pinned (OpenSpec.upto pairOthersSpec)

end Rows
end Go.Proofs.YtnhniajfnmdnnaaDoor
