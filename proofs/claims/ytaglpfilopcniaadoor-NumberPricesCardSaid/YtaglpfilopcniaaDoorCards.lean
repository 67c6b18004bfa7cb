/-
  DERIVED. GIVEN WITH THE SEED: THE CARDS: each row of YtaglpfilopcniaaDoorRows.lean that lists a variable, with what it lists TIED to the program's text (the seventh form; the later family's looks); each row that meets fmt, with fmt's text TOLD by the authors' own Lean function (tested against real Go, not proved from fmt's source: count such statements apart). THE CARD IS WHAT COUNTS. Prove the row's statement (the work); the ties are given (YtaglpfilopcniaaDoorTie.lean); close each card by the builder's one call (the guide's Derived/Test/ToyasCard.lean, 'card_holds'). Laid BY PROGRAM, IN A SANDBOX (cutbox-door.mjs). By AI agents, Wed Nov 11 2026. No macro, syntax, notation, axiom, sorry.
-/
import Derived.Test.YtaglpfilopcniaaDoorRows
import GoSem.ClaimSeven
namespace Go.Proofs.YtaglpfilopcniaaDoor
namespace Rows

/-- THE TIED CARD OF 'transitlaw03.NumberFormats'. -/
def numberFormatsCard : Claim7 := { stood := { row := numberFormatsRow, standIns := [], harness := (true, "7b680033750dc1de9fcdba6f2aee3caca7b9e21f58f1de70b22564c952ff4335"), looks := true }, kinds := [], alts := [], laidByText := true, laidKinds := [.data, .data, .data, .sentinel, .sentinel], laidTests := true, laidLooks := .later }
def NumberFormatsCardSaid : Prop := Claim7.holds Tryd.pinned (.plain (OpenSpec.ofChange numberFormatsSpec)) numberFormatsCard

/-- THE TIED CARD OF 'transitlaw03.NumberParses'. -/
def numberParsesCard : Claim7 := { stood := { row := numberParsesRow, standIns := [], harness := (true, "7b680033750dc1de9fcdba6f2aee3caca7b9e21f58f1de70b22564c952ff4335"), looks := true }, kinds := [], alts := [], laidByText := true, laidKinds := [.data, .data, .data, .sentinel, .sentinel], laidTests := true, laidLooks := .later }
def NumberParsesCardSaid : Prop := Claim7.holds Tryd.pinned (.plain (OpenSpec.ofChange numberParsesSpec)) numberParsesCard

/-- THE TIED CARD OF 'transitlaw03.NumberComputes'. -/
def numberComputesCard : Claim7 := { stood := { row := numberComputesRow, standIns := [], harness := (true, "7b680033750dc1de9fcdba6f2aee3caca7b9e21f58f1de70b22564c952ff4335"), looks := true }, kinds := [], alts := [], laidByText := true, laidKinds := [.data, .data, .data, .sentinel, .sentinel], laidTests := true, laidLooks := .later }
def NumberComputesCardSaid : Prop := Claim7.holds Tryd.pinned (.plain (OpenSpec.ofChange numberComputesSpec)) numberComputesCard

/-- THE TIED CARD OF 'transitlaw03.NumberClamps'. -/
def numberClampsCard : Claim7 := { stood := { row := numberClampsRow, standIns := [], harness := (true, "7b680033750dc1de9fcdba6f2aee3caca7b9e21f58f1de70b22564c952ff4335"), looks := true }, kinds := [], alts := [], laidByText := true, laidKinds := [.data, .data, .data, .sentinel, .sentinel], laidTests := true, laidLooks := .later }
def NumberClampsCardSaid : Prop := Claim7.holds Tryd.pinned (.plain (OpenSpec.ofChange numberClampsSpec)) numberClampsCard

/-- THE TIED CARD OF 'transitlaw03.NumberPrices'. -/
def numberPricesCard : Claim7 := { stood := { row := numberPricesRow, standIns := [], harness := (true, "7b680033750dc1de9fcdba6f2aee3caca7b9e21f58f1de70b22564c952ff4335"), looks := true }, kinds := [], alts := [], laidByText := true, laidKinds := [.data, .data, .data, .sentinel, .sentinel], laidTests := true, laidLooks := .later }
def NumberPricesCardSaid : Prop := Claim7.holds Tryd.pinned (.plain (OpenSpec.ofChange numberPricesSpec)) numberPricesCard

/-- THE TIED CARD OF 'transitlaw03.NumberUndoes'. -/
def numberUndoesCard : Claim7 := { stood := { row := numberUndoesRow, standIns := [], harness := (true, "7b680033750dc1de9fcdba6f2aee3caca7b9e21f58f1de70b22564c952ff4335"), looks := true }, kinds := [], alts := [], laidByText := true, laidKinds := [.data, .data, .data, .sentinel, .sentinel], laidTests := true, laidLooks := .later }
def NumberUndoesCardSaid : Prop := Claim7.holds Tryd.pinned (.plain (OpenSpec.ofChange numberUndoesSpec)) numberUndoesCard

/-- THE TIED CARD OF 'transitlaw03.NumberRoundTrip'. -/
def numberRoundTripCard : Claim7 := { stood := { row := numberRoundTripRow, standIns := [], harness := (true, "7b680033750dc1de9fcdba6f2aee3caca7b9e21f58f1de70b22564c952ff4335"), looks := true }, kinds := [], alts := [], laidByText := true, laidKinds := [.data, .data, .data, .sentinel, .sentinel], laidTests := true, laidLooks := .later }
def NumberRoundTripCardSaid : Prop := Claim7.holds Tryd.pinned (.plain (OpenSpec.ofChange numberRoundTripSpec)) numberRoundTripCard

/-- THE SECOND FORM's CARD OF 'transitlaw03.NumberFormats'. -/
def numberFormatsUptoCard : Claim7 := { stood := { row := numberFormatsUptoRow, standIns := [], harness := (true, "7b680033750dc1de9fcdba6f2aee3caca7b9e21f58f1de70b22564c952ff4335"), looks := true }, kinds := [], alts := [], laidByText := true, laidKinds := [.data, .data, .data, .sentinel, .sentinel], laidTests := true, laidLooks := .later }
def NumberFormatsUptoCardSaid : Prop := Claim7.holds Tryd.pinned (.plain (OpenSpec.upto numberFormatsSpec)) numberFormatsUptoCard

/-- THE SECOND FORM's CARD OF 'transitlaw03.NumberParses'. -/
def numberParsesUptoCard : Claim7 := { stood := { row := numberParsesUptoRow, standIns := [], harness := (true, "7b680033750dc1de9fcdba6f2aee3caca7b9e21f58f1de70b22564c952ff4335"), looks := true }, kinds := [], alts := [], laidByText := true, laidKinds := [.data, .data, .data, .sentinel, .sentinel], laidTests := true, laidLooks := .later }
def NumberParsesUptoCardSaid : Prop := Claim7.holds Tryd.pinned (.plain (OpenSpec.upto numberParsesSpec)) numberParsesUptoCard

/-- THE SECOND FORM's CARD OF 'transitlaw03.NumberComputes'. -/
def numberComputesUptoCard : Claim7 := { stood := { row := numberComputesUptoRow, standIns := [], harness := (true, "7b680033750dc1de9fcdba6f2aee3caca7b9e21f58f1de70b22564c952ff4335"), looks := true }, kinds := [], alts := [], laidByText := true, laidKinds := [.data, .data, .data, .sentinel, .sentinel], laidTests := true, laidLooks := .later }
def NumberComputesUptoCardSaid : Prop := Claim7.holds Tryd.pinned (.plain (OpenSpec.upto numberComputesSpec)) numberComputesUptoCard

/-- THE SECOND FORM's CARD OF 'transitlaw03.NumberClamps'. -/
def numberClampsUptoCard : Claim7 := { stood := { row := numberClampsUptoRow, standIns := [], harness := (true, "7b680033750dc1de9fcdba6f2aee3caca7b9e21f58f1de70b22564c952ff4335"), looks := true }, kinds := [], alts := [], laidByText := true, laidKinds := [.data, .data, .data, .sentinel, .sentinel], laidTests := true, laidLooks := .later }
def NumberClampsUptoCardSaid : Prop := Claim7.holds Tryd.pinned (.plain (OpenSpec.upto numberClampsSpec)) numberClampsUptoCard

/-- THE SECOND FORM's CARD OF 'transitlaw03.NumberPrices'. -/
def numberPricesUptoCard : Claim7 := { stood := { row := numberPricesUptoRow, standIns := [], harness := (true, "7b680033750dc1de9fcdba6f2aee3caca7b9e21f58f1de70b22564c952ff4335"), looks := true }, kinds := [], alts := [], laidByText := true, laidKinds := [.data, .data, .data, .sentinel, .sentinel], laidTests := true, laidLooks := .later }
def NumberPricesUptoCardSaid : Prop := Claim7.holds Tryd.pinned (.plain (OpenSpec.upto numberPricesSpec)) numberPricesUptoCard

/-- THE SECOND FORM's CARD OF 'transitlaw03.NumberUndoes'. -/
def numberUndoesUptoCard : Claim7 := { stood := { row := numberUndoesUptoRow, standIns := [], harness := (true, "7b680033750dc1de9fcdba6f2aee3caca7b9e21f58f1de70b22564c952ff4335"), looks := true }, kinds := [], alts := [], laidByText := true, laidKinds := [.data, .data, .data, .sentinel, .sentinel], laidTests := true, laidLooks := .later }
def NumberUndoesUptoCardSaid : Prop := Claim7.holds Tryd.pinned (.plain (OpenSpec.upto numberUndoesSpec)) numberUndoesUptoCard

/-- THE SECOND FORM's CARD OF 'transitlaw03.NumberRoundTrip'. -/
def numberRoundTripUptoCard : Claim7 := { stood := { row := numberRoundTripUptoRow, standIns := [], harness := (true, "7b680033750dc1de9fcdba6f2aee3caca7b9e21f58f1de70b22564c952ff4335"), looks := true }, kinds := [], alts := [], laidByText := true, laidKinds := [.data, .data, .data, .sentinel, .sentinel], laidTests := true, laidLooks := .later }
def NumberRoundTripUptoCardSaid : Prop := Claim7.holds Tryd.pinned (.plain (OpenSpec.upto numberRoundTripSpec)) numberRoundTripUptoCard
end Rows
end Go.Proofs.YtaglpfilopcniaaDoor
