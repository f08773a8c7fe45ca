/-
  DERIVED. GIVEN WITH THE SEED: THE CARDS: each row of YtnhniajfnmdnnaaDoorRows.lean that lists a variable, with what it lists TIED to the program's text (the seventh form; the later family's looks); each row that meets fmt, with fmt's text TOLD by the authors' own Lean function (tested against real Go, not proved from fmt's source: count such statements apart). THE CARD IS WHAT COUNTS. Prove the row's statement (the work); the ties are given (YtnhniajfnmdnnaaDoorTie.lean); close each card by the builder's one call (the guide's Derived/Test/ToyasCard.lean, 'card_holds'). Laid BY PROGRAM, IN A SANDBOX (cutbox-door.mjs). By AI agents, Wed Nov 11 2026. No macro, syntax, notation, axiom, sorry.
-/
import Derived.Test.YtnhniajfnmdnnaaDoorRows
import GoSem.ClaimSeven
namespace Go.Proofs.YtnhniajfnmdnnaaDoor
namespace Rows

/-- THE TIED CARD OF 'horariumlaw15.PairHolds'. -/
def pairHoldsCard : Claim7 := { stood := { row := pairHoldsRow, standIns := [], harness := (true, "bf37e17392dd6f2756c0075e89216da98ca2bfb72710cf31e5ecb243f2744dc4"), looks := false }, kinds := [], alts := [], laidByText := true, laidKinds := [.data, .data], laidTests := true, laidLooks := .later }
def PairHoldsCardSaid : Prop := Claim7.holds Tryd.pinned (.plain (OpenSpec.ofChange pairHoldsSpec)) pairHoldsCard

/-- THE TIED CARD OF 'horariumlaw15.PairNever'. -/
def pairNeverCard : Claim7 := { stood := { row := pairNeverRow, standIns := [], harness := (true, "bf37e17392dd6f2756c0075e89216da98ca2bfb72710cf31e5ecb243f2744dc4"), looks := false }, kinds := [], alts := [], laidByText := true, laidKinds := [.data, .data], laidTests := true, laidLooks := .later }
def PairNeverCardSaid : Prop := Claim7.holds Tryd.pinned (.plain (OpenSpec.ofChange pairNeverSpec)) pairNeverCard

/-- THE TIED CARD OF 'horariumlaw15.PairKnows'. -/
def pairKnowsCard : Claim7 := { stood := { row := pairKnowsRow, standIns := [], harness := (true, "bf37e17392dd6f2756c0075e89216da98ca2bfb72710cf31e5ecb243f2744dc4"), looks := false }, kinds := [], alts := [], laidByText := true, laidKinds := [.data, .data], laidTests := true, laidLooks := .later }
def PairKnowsCardSaid : Prop := Claim7.holds Tryd.pinned (.plain (OpenSpec.ofChange pairKnowsSpec)) pairKnowsCard

/-- THE TIED CARD OF 'horariumlaw15.PairKinds'. -/
def pairKindsCard : Claim7 := { stood := { row := pairKindsRow, standIns := [], harness := (true, "bf37e17392dd6f2756c0075e89216da98ca2bfb72710cf31e5ecb243f2744dc4"), looks := false }, kinds := [], alts := [], laidByText := true, laidKinds := [.data, .data], laidTests := true, laidLooks := .later }
def PairKindsCardSaid : Prop := Claim7.holds Tryd.pinned (.plain (OpenSpec.ofChange pairKindsSpec)) pairKindsCard

/-- THE TIED CARD OF 'horariumlaw15.PairTurns'. -/
def pairTurnsCard : Claim7 := { stood := { row := pairTurnsRow, standIns := [], harness := (true, "bf37e17392dd6f2756c0075e89216da98ca2bfb72710cf31e5ecb243f2744dc4"), looks := false }, kinds := [], alts := [], laidByText := true, laidKinds := [.data, .data], laidTests := true, laidLooks := .later }
def PairTurnsCardSaid : Prop := Claim7.holds Tryd.pinned (.plain (OpenSpec.ofChange pairTurnsSpec)) pairTurnsCard

/-- THE TIED CARD OF 'horariumlaw15.PairOthers'. -/
def pairOthersCard : Claim7 := { stood := { row := pairOthersRow, standIns := [], harness := (true, "bf37e17392dd6f2756c0075e89216da98ca2bfb72710cf31e5ecb243f2744dc4"), looks := false }, kinds := [], alts := [], laidByText := true, laidKinds := [.data, .data], laidTests := true, laidLooks := .later }
def PairOthersCardSaid : Prop := Claim7.holds Tryd.pinned (.plain (OpenSpec.ofChange pairOthersSpec)) pairOthersCard

/-- THE SECOND FORM's CARD OF 'horariumlaw15.PairHolds'. -/
def pairHoldsUptoCard : Claim7 := { stood := { row := pairHoldsUptoRow, standIns := [], harness := (true, "bf37e17392dd6f2756c0075e89216da98ca2bfb72710cf31e5ecb243f2744dc4"), looks := false }, kinds := [], alts := [], laidByText := true, laidKinds := [.data, .data], laidTests := true, laidLooks := .later }
def PairHoldsUptoCardSaid : Prop := Claim7.holds Tryd.pinned (.plain (OpenSpec.upto pairHoldsSpec)) pairHoldsUptoCard

/-- THE SECOND FORM's CARD OF 'horariumlaw15.PairNever'. -/
def pairNeverUptoCard : Claim7 := { stood := { row := pairNeverUptoRow, standIns := [], harness := (true, "bf37e17392dd6f2756c0075e89216da98ca2bfb72710cf31e5ecb243f2744dc4"), looks := false }, kinds := [], alts := [], laidByText := true, laidKinds := [.data, .data], laidTests := true, laidLooks := .later }
def PairNeverUptoCardSaid : Prop := Claim7.holds Tryd.pinned (.plain (OpenSpec.upto pairNeverSpec)) pairNeverUptoCard

/-- THE SECOND FORM's CARD OF 'horariumlaw15.PairKnows'. -/
def pairKnowsUptoCard : Claim7 := { stood := { row := pairKnowsUptoRow, standIns := [], harness := (true, "bf37e17392dd6f2756c0075e89216da98ca2bfb72710cf31e5ecb243f2744dc4"), looks := false }, kinds := [], alts := [], laidByText := true, laidKinds := [.data, .data], laidTests := true, laidLooks := .later }
def PairKnowsUptoCardSaid : Prop := Claim7.holds Tryd.pinned (.plain (OpenSpec.upto pairKnowsSpec)) pairKnowsUptoCard

/-- THE SECOND FORM's CARD OF 'horariumlaw15.PairKinds'. -/
def pairKindsUptoCard : Claim7 := { stood := { row := pairKindsUptoRow, standIns := [], harness := (true, "bf37e17392dd6f2756c0075e89216da98ca2bfb72710cf31e5ecb243f2744dc4"), looks := false }, kinds := [], alts := [], laidByText := true, laidKinds := [.data, .data], laidTests := true, laidLooks := .later }
def PairKindsUptoCardSaid : Prop := Claim7.holds Tryd.pinned (.plain (OpenSpec.upto pairKindsSpec)) pairKindsUptoCard

/-- THE SECOND FORM's CARD OF 'horariumlaw15.PairTurns'. -/
def pairTurnsUptoCard : Claim7 := { stood := { row := pairTurnsUptoRow, standIns := [], harness := (true, "bf37e17392dd6f2756c0075e89216da98ca2bfb72710cf31e5ecb243f2744dc4"), looks := false }, kinds := [], alts := [], laidByText := true, laidKinds := [.data, .data], laidTests := true, laidLooks := .later }
def PairTurnsUptoCardSaid : Prop := Claim7.holds Tryd.pinned (.plain (OpenSpec.upto pairTurnsSpec)) pairTurnsUptoCard

/-- THE SECOND FORM's CARD OF 'horariumlaw15.PairOthers'. -/
def pairOthersUptoCard : Claim7 := { stood := { row := pairOthersUptoRow, standIns := [], harness := (true, "bf37e17392dd6f2756c0075e89216da98ca2bfb72710cf31e5ecb243f2744dc4"), looks := false }, kinds := [], alts := [], laidByText := true, laidKinds := [.data, .data], laidTests := true, laidLooks := .later }
def PairOthersUptoCardSaid : Prop := Claim7.holds Tryd.pinned (.plain (OpenSpec.upto pairOthersSpec)) pairOthersUptoCard
end Rows
end Go.Proofs.YtnhniajfnmdnnaaDoor
