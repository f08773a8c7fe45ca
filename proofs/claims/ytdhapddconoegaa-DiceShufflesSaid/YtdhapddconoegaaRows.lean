/-
  No cell of these rows narrows 'for every input' (looked for: loops, veiled, ifaces, maps, wideKeys, modest, calm, conditions, laid).
  DERIVED. THE GIVEN ROWS OF THIS SEAT. 5 by the template 'for every input the law returns true; each argument reads behind the call as it read before'; 0 by the template 'total and deterministic' (their statements: YtdhapddconoegaaTotals.lean).
  GIVEN WITH THE SEED: the statements are not yours to turn. If you find one false, say at which input.
  Laid BY PROGRAM, IN A SANDBOX (cutbox-rows.mjs): the forced cells as the released guide's own fill.sh prints them over the translation 827fe9ebaafaade7… (all of the seat's roots in one cut). By AI agents, Wed Nov 11 2026. No macro, syntax, notation, axiom, sorry.
-/
import Derived.Test.YtdhapddconoegaaChecked
import GoSem.Claim
import GoSem.ClaimJoined
import GoSem.ClaimMapViews
import Derived.JoinedTies
import Derived.KernelRfl
namespace Go.Proofs.Ytdhapddconoegaa
/- THE CELL 'sum', in the pinned program and in every row, IS THE sha256 OF THE DUMP (.gsa) THAT YtdhapddconoegaaProg.lean LOADS. Nothing in Lean hashes anything: it is a label: what it is worth is what the hold of that sum in a sandbox is worth. -/
noncomputable def Try.pinned : Pinned := { name := "ytdhapddconoegaa", sum := "827fe9ebaafaade7f68b3cd03b9310a3dd1b06e5ecd626cf67f28102605e1c87", checked := Try.checked }
namespace Rows
def none {H : Type} : Left H := { results := [], args := [] }

/-- 'horariumlaw08.DiceTells': WHATEVER THE INPUT: true; the input reads as it did. -/
def diceTellsSpec : ChangeSpec := { name := "diceTells", fn := fun _ => fun
  | [d1, d2, d3] => { results := [.lit (.bool true)], args := [d1, d2, d3] }
  | _ => none }
def diceTellsRow : OpenClaim := { program := "ytdhapddconoegaa", sum := "827fe9ebaafaade7f68b3cd03b9310a3dd1b06e5ecd626cf67f28102605e1c87", func := "horarium/horariumlaw08.DiceTells", spec := "diceTells", unfollowed := true, recurses := true, apart := false }
def DiceTellsSaid : Prop := diceTellsRow.holds Try.pinned (OpenSpec.ofChange diceTellsSpec)

/-- ITS FALSE NEIGHBOUR: 'it returns false'. Refute it at one input. -/
def diceTellsWrong : ChangeSpec := { name := "diceTells", fn := fun _ => fun
  | [d1, d2, d3] => { results := [.lit (.bool false)], args := [d1, d2, d3] }
  | _ => none }
def DiceTellsWrongFalsely : Prop := diceTellsRow.holds Try.pinned (OpenSpec.ofChange diceTellsWrong)

/-- 'horariumlaw08.DiceShuffles': WHATEVER THE INPUT: true; the input reads as it did. -/
def diceShufflesSpec : ChangeSpec := { name := "diceShuffles", fn := fun _ => fun
  | [d1, d2] => { results := [.lit (.bool true)], args := [d1, d2] }
  | _ => none }
def diceShufflesRow : OpenClaim := { program := "ytdhapddconoegaa", sum := "827fe9ebaafaade7f68b3cd03b9310a3dd1b06e5ecd626cf67f28102605e1c87", func := "horarium/horariumlaw08.DiceShuffles", spec := "diceShuffles", unfollowed := true, recurses := true, apart := false }
def DiceShufflesSaid : Prop := diceShufflesRow.holds Try.pinned (OpenSpec.ofChange diceShufflesSpec)

/-- ITS FALSE NEIGHBOUR: 'it returns false'. Refute it at one input. -/
def diceShufflesWrong : ChangeSpec := { name := "diceShuffles", fn := fun _ => fun
  | [d1, d2] => { results := [.lit (.bool false)], args := [d1, d2] }
  | _ => none }
def DiceShufflesWrongFalsely : Prop := diceShufflesRow.holds Try.pinned (OpenSpec.ofChange diceShufflesWrong)

/-- 'horariumlaw08.DiceSkips': WHATEVER THE INPUT: true; the input reads as it did. -/
def diceSkipsSpec : ChangeSpec := { name := "diceSkips", fn := fun _ => fun
  | [d1, d2, d3] => { results := [.lit (.bool true)], args := [d1, d2, d3] }
  | _ => none }
def diceSkipsRow : OpenClaim := { program := "ytdhapddconoegaa", sum := "827fe9ebaafaade7f68b3cd03b9310a3dd1b06e5ecd626cf67f28102605e1c87", func := "horarium/horariumlaw08.DiceSkips", spec := "diceSkips", unfollowed := true, recurses := true, apart := false }
def DiceSkipsSaid : Prop := diceSkipsRow.holds Try.pinned (OpenSpec.ofChange diceSkipsSpec)

/-- ITS FALSE NEIGHBOUR: 'it returns false'. Refute it at one input. -/
def diceSkipsWrong : ChangeSpec := { name := "diceSkips", fn := fun _ => fun
  | [d1, d2, d3] => { results := [.lit (.bool false)], args := [d1, d2, d3] }
  | _ => none }
def DiceSkipsWrongFalsely : Prop := diceSkipsRow.holds Try.pinned (OpenSpec.ofChange diceSkipsWrong)

/-- 'horariumlaw08.DiceBounds': WHATEVER THE INPUT: true; the input reads as it did. -/
def diceBoundsSpec : ChangeSpec := { name := "diceBounds", fn := fun _ => fun
  | [d1, d2, d3] => { results := [.lit (.bool true)], args := [d1, d2, d3] }
  | _ => none }
def diceBoundsRow : OpenClaim := { program := "ytdhapddconoegaa", sum := "827fe9ebaafaade7f68b3cd03b9310a3dd1b06e5ecd626cf67f28102605e1c87", func := "horarium/horariumlaw08.DiceBounds", spec := "diceBounds", unfollowed := true, recurses := true, apart := false }
def DiceBoundsSaid : Prop := diceBoundsRow.holds Try.pinned (OpenSpec.ofChange diceBoundsSpec)

/-- ITS FALSE NEIGHBOUR: 'it returns false'. Refute it at one input. -/
def diceBoundsWrong : ChangeSpec := { name := "diceBounds", fn := fun _ => fun
  | [d1, d2, d3] => { results := [.lit (.bool false)], args := [d1, d2, d3] }
  | _ => none }
def DiceBoundsWrongFalsely : Prop := diceBoundsRow.holds Try.pinned (OpenSpec.ofChange diceBoundsWrong)

/-- 'horariumlaw08.DiceAgain': WHATEVER THE INPUT: true; the input reads as it did. -/
def diceAgainSpec : ChangeSpec := { name := "diceAgain", fn := fun _ => fun
  | [d1, d2] => { results := [.lit (.bool true)], args := [d1, d2] }
  | _ => none }
def diceAgainRow : OpenClaim := { program := "ytdhapddconoegaa", sum := "827fe9ebaafaade7f68b3cd03b9310a3dd1b06e5ecd626cf67f28102605e1c87", func := "horarium/horariumlaw08.DiceAgain", spec := "diceAgain", unfollowed := true, recurses := true, apart := false }
def DiceAgainSaid : Prop := diceAgainRow.holds Try.pinned (OpenSpec.ofChange diceAgainSpec)

/-- ITS FALSE NEIGHBOUR: 'it returns false'. Refute it at one input. -/
def diceAgainWrong : ChangeSpec := { name := "diceAgain", fn := fun _ => fun
  | [d1, d2] => { results := [.lit (.bool false)], args := [d1, d2] }
  | _ => none }
def DiceAgainWrongFalsely : Prop := diceAgainRow.holds Try.pinned (OpenSpec.ofChange diceAgainWrong)

/- THE SECOND FORM. 'bulk': how many values and letters a reading holds, each counted each time it is reached (what is shared counts as often as it is met; a slice's spare places count too). A statement '..UptoSaid' is the law's where the arguments, and the package variables that the reading takes, are together of bulk at most 1048576: NARROWER than '..Said'. Prove '..Said' where nothing that the law and all that it calls make is longer than what came in: it says more and counts as full. Else prove '..UptoSaid'. A law counts once. -/
mutual
def uptoBulk {H : Type} : DataW H → Nat
  | .lit (.string bytes) => bytes.length + 1
  | .lit _ => 1
  | .nil => 1
  | .ptr d => uptoBulk d + 1
  | .slice elems spare => uptoBulkAll elems + uptoBulkAll spare + 1
  | .agg parts => uptoBulkAll parts + 1
  | .iface _ d => uptoBulk d + 1
  | .map entries => uptoBulkEntries entries + 1
  | .held _ => 1
def uptoBulkAll {H : Type} : List (DataW H) → Nat
  | [] => 0
  | d :: r => uptoBulk d + uptoBulkAll r
def uptoBulkEntries {H : Type} : List (Lit × DataW H) → Nat
  | [] => 0
  | x :: r => uptoBulkEntry x + uptoBulkEntries r
def uptoBulkEntry {H : Type} : Lit × DataW H → Nat
  | (.string bytes, d) => bytes.length + uptoBulk d + 1
  | (_, d) => uptoBulk d + 1
 end
def uptoSmall : (H : Type) → List (DataW H) → Bool := fun _ ds => decide (uptoBulkAll ds ≤ 1048576)
def OpenSpec.upto (s : _root_.Go.ChangeSpec) : _root_.Go.OpenSpec := { _root_.Go.OpenSpec.ofChange s with cond := some uptoSmall }

/-- 'horariumlaw08.DiceTells', WHERE WHAT IT READS IS OF BULK AT MOST 1048576: true; the input reads as it did. -/
def diceTellsUptoRow : OpenClaim := { program := "ytdhapddconoegaa", sum := "827fe9ebaafaade7f68b3cd03b9310a3dd1b06e5ecd626cf67f28102605e1c87", func := "horarium/horariumlaw08.DiceTells", spec := "diceTells", unfollowed := true, recurses := true, apart := false, narrowed := true }
def DiceTellsUptoSaid : Prop := diceTellsUptoRow.holds Try.pinned (OpenSpec.upto diceTellsSpec)

/-- 'horariumlaw08.DiceShuffles', WHERE WHAT IT READS IS OF BULK AT MOST 1048576: true; the input reads as it did. -/
def diceShufflesUptoRow : OpenClaim := { program := "ytdhapddconoegaa", sum := "827fe9ebaafaade7f68b3cd03b9310a3dd1b06e5ecd626cf67f28102605e1c87", func := "horarium/horariumlaw08.DiceShuffles", spec := "diceShuffles", unfollowed := true, recurses := true, apart := false, narrowed := true }
def DiceShufflesUptoSaid : Prop := diceShufflesUptoRow.holds Try.pinned (OpenSpec.upto diceShufflesSpec)

/-- 'horariumlaw08.DiceSkips', WHERE WHAT IT READS IS OF BULK AT MOST 1048576: true; the input reads as it did. -/
def diceSkipsUptoRow : OpenClaim := { program := "ytdhapddconoegaa", sum := "827fe9ebaafaade7f68b3cd03b9310a3dd1b06e5ecd626cf67f28102605e1c87", func := "horarium/horariumlaw08.DiceSkips", spec := "diceSkips", unfollowed := true, recurses := true, apart := false, narrowed := true }
def DiceSkipsUptoSaid : Prop := diceSkipsUptoRow.holds Try.pinned (OpenSpec.upto diceSkipsSpec)

/-- 'horariumlaw08.DiceBounds', WHERE WHAT IT READS IS OF BULK AT MOST 1048576: true; the input reads as it did. -/
def diceBoundsUptoRow : OpenClaim := { program := "ytdhapddconoegaa", sum := "827fe9ebaafaade7f68b3cd03b9310a3dd1b06e5ecd626cf67f28102605e1c87", func := "horarium/horariumlaw08.DiceBounds", spec := "diceBounds", unfollowed := true, recurses := true, apart := false, narrowed := true }
def DiceBoundsUptoSaid : Prop := diceBoundsUptoRow.holds Try.pinned (OpenSpec.upto diceBoundsSpec)

/-- 'horariumlaw08.DiceAgain', WHERE WHAT IT READS IS OF BULK AT MOST 1048576: true; the input reads as it did. -/
def diceAgainUptoRow : OpenClaim := { program := "ytdhapddconoegaa", sum := "827fe9ebaafaade7f68b3cd03b9310a3dd1b06e5ecd626cf67f28102605e1c87", func := "horarium/horariumlaw08.DiceAgain", spec := "diceAgain", unfollowed := true, recurses := true, apart := false, narrowed := true }
def DiceAgainUptoSaid : Prop := diceAgainUptoRow.holds Try.pinned (OpenSpec.upto diceAgainSpec)

end Rows
end Go.Proofs.Ytdhapddconoegaa
