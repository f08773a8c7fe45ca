/-
  DERIVED. GIVEN WITH THE SEED: THE CARDS: each row of YtcdldgmgmbopdaaDoorRows.lean that lists a variable, with what it lists TIED to the program's text (the seventh form; the later family's looks); each row that meets fmt, with fmt's text TOLD by the authors' own Lean function (tested against real Go, not proved from fmt's source: count such statements apart). THE CARD IS WHAT COUNTS. Prove the row's statement (the work); the ties are given (YtcdldgmgmbopdaaDoorTie.lean); close each card by the builder's one call (the guide's Derived/Test/ToyasCard.lean, 'card_holds'). Laid BY PROGRAM, IN A SANDBOX (cutbox-door.mjs). By AI agents, Wed Nov 11 2026. No macro, syntax, notation, axiom, sorry.
-/
import Derived.Test.YtcdldgmgmbopdaaDoorRows
import GoSem.ClaimSeven
namespace Go.Proofs.YtcdldgmgmbopdaaDoor
namespace Rows

/-- THE TIED CARD OF 'horariumlaw09.WhenMeets'. -/
def whenMeetsCard : Claim7 := { stood := { row := whenMeetsRow, standIns := [], harness := (true, "3a99651b043e18f83b1f2cac08d112f80564e10425dcffe62ddda1d2b7045292"), looks := false }, kinds := [], alts := [], laidByText := true, laidKinds := [.data], laidTests := true, laidLooks := .later }
def WhenMeetsCardSaid : Prop := Claim7.holds Tryd.pinned (.plain (OpenSpec.ofChange whenMeetsSpec)) whenMeetsCard

/-- THE TIED CARD OF 'horariumlaw09.WhenTells'. -/
def whenTellsCard : Claim7 := { stood := { row := whenTellsRow, standIns := [], harness := (true, "3a99651b043e18f83b1f2cac08d112f80564e10425dcffe62ddda1d2b7045292"), looks := false }, kinds := [], alts := [], laidByText := true, laidKinds := [.data], laidTests := true, laidLooks := .later }
def WhenTellsCardSaid : Prop := Claim7.holds Tryd.pinned (.plain (OpenSpec.ofChange whenTellsSpec)) whenTellsCard

/-- THE TIED CARD OF 'horariumlaw09.WhenNumbers'. -/
def whenNumbersCard : Claim7 := { stood := { row := whenNumbersRow, standIns := [], harness := (true, "3a99651b043e18f83b1f2cac08d112f80564e10425dcffe62ddda1d2b7045292"), looks := false }, kinds := [], alts := [], laidByText := true, laidKinds := [.data], laidTests := true, laidLooks := .later }
def WhenNumbersCardSaid : Prop := Claim7.holds Tryd.pinned (.plain (OpenSpec.ofChange whenNumbersSpec)) whenNumbersCard

/-- THE TIED CARD OF 'horariumlaw09.WhenPairs'. -/
def whenPairsCard : Claim7 := { stood := { row := whenPairsRow, standIns := [], harness := (true, "3a99651b043e18f83b1f2cac08d112f80564e10425dcffe62ddda1d2b7045292"), looks := false }, kinds := [], alts := [], laidByText := true, laidKinds := [.data], laidTests := true, laidLooks := .later }
def WhenPairsCardSaid : Prop := Claim7.holds Tryd.pinned (.plain (OpenSpec.ofChange whenPairsSpec)) whenPairsCard

/-- THE TIED CARD OF 'horariumlaw09.WhenApart'. -/
def whenApartCard : Claim7 := { stood := { row := whenApartRow, standIns := [], harness := (true, "3a99651b043e18f83b1f2cac08d112f80564e10425dcffe62ddda1d2b7045292"), looks := false }, kinds := [], alts := [], laidByText := true, laidKinds := [.data], laidTests := true, laidLooks := .later }
def WhenApartCardSaid : Prop := Claim7.holds Tryd.pinned (.plain (OpenSpec.ofChange whenApartSpec)) whenApartCard

/-- THE SECOND FORM's CARD OF 'horariumlaw09.WhenMeets'. -/
def whenMeetsUptoCard : Claim7 := { stood := { row := whenMeetsUptoRow, standIns := [], harness := (true, "3a99651b043e18f83b1f2cac08d112f80564e10425dcffe62ddda1d2b7045292"), looks := false }, kinds := [], alts := [], laidByText := true, laidKinds := [.data], laidTests := true, laidLooks := .later }
def WhenMeetsUptoCardSaid : Prop := Claim7.holds Tryd.pinned (.plain (OpenSpec.upto whenMeetsSpec)) whenMeetsUptoCard

/-- THE SECOND FORM's CARD OF 'horariumlaw09.WhenTells'. -/
def whenTellsUptoCard : Claim7 := { stood := { row := whenTellsUptoRow, standIns := [], harness := (true, "3a99651b043e18f83b1f2cac08d112f80564e10425dcffe62ddda1d2b7045292"), looks := false }, kinds := [], alts := [], laidByText := true, laidKinds := [.data], laidTests := true, laidLooks := .later }
def WhenTellsUptoCardSaid : Prop := Claim7.holds Tryd.pinned (.plain (OpenSpec.upto whenTellsSpec)) whenTellsUptoCard

/-- THE SECOND FORM's CARD OF 'horariumlaw09.WhenNumbers'. -/
def whenNumbersUptoCard : Claim7 := { stood := { row := whenNumbersUptoRow, standIns := [], harness := (true, "3a99651b043e18f83b1f2cac08d112f80564e10425dcffe62ddda1d2b7045292"), looks := false }, kinds := [], alts := [], laidByText := true, laidKinds := [.data], laidTests := true, laidLooks := .later }
def WhenNumbersUptoCardSaid : Prop := Claim7.holds Tryd.pinned (.plain (OpenSpec.upto whenNumbersSpec)) whenNumbersUptoCard

/-- THE SECOND FORM's CARD OF 'horariumlaw09.WhenPairs'. -/
def whenPairsUptoCard : Claim7 := { stood := { row := whenPairsUptoRow, standIns := [], harness := (true, "3a99651b043e18f83b1f2cac08d112f80564e10425dcffe62ddda1d2b7045292"), looks := false }, kinds := [], alts := [], laidByText := true, laidKinds := [.data], laidTests := true, laidLooks := .later }
def WhenPairsUptoCardSaid : Prop := Claim7.holds Tryd.pinned (.plain (OpenSpec.upto whenPairsSpec)) whenPairsUptoCard

/-- THE SECOND FORM's CARD OF 'horariumlaw09.WhenApart'. -/
def whenApartUptoCard : Claim7 := { stood := { row := whenApartUptoRow, standIns := [], harness := (true, "3a99651b043e18f83b1f2cac08d112f80564e10425dcffe62ddda1d2b7045292"), looks := false }, kinds := [], alts := [], laidByText := true, laidKinds := [.data], laidTests := true, laidLooks := .later }
def WhenApartUptoCardSaid : Prop := Claim7.holds Tryd.pinned (.plain (OpenSpec.upto whenApartSpec)) whenApartUptoCard
end Rows
end Go.Proofs.YtcdldgmgmbopdaaDoor
