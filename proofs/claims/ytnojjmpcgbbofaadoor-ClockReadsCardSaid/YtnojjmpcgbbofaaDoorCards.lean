/-
  DERIVED. GIVEN WITH THE SEED: THE CARDS: each row of YtnojjmpcgbbofaaDoorRows.lean that lists a variable, with what it lists TIED to the program's text (the seventh form; the later family's looks); each row that meets fmt, with fmt's text TOLD by the authors' own Lean function (tested against real Go, not proved from fmt's source: count such statements apart). THE CARD IS WHAT COUNTS. Prove the row's statement (the work); the ties are given (YtnojjmpcgbbofaaDoorTie.lean); close each card by the builder's one call (the guide's Derived/Test/ToyasCard.lean, 'card_holds'). Laid BY PROGRAM, IN A SANDBOX (cutbox-door.mjs). By AI agents, Wed Nov 11 2026. No macro, syntax, notation, axiom, sorry.
-/
import Derived.Test.YtnojjmpcgbbofaaDoorRows
import GoSem.ClaimSeven
namespace Go.Proofs.YtnojjmpcgbbofaaDoor
namespace Rows

/-- THE TIED CARD OF 'transitlaw01.ClockSplits'. -/
def clockSplitsCard : Claim7 := { stood := { row := clockSplitsRow, standIns := [], harness := (true, "9c867685d693685d91119718b4ef8164977a5180ecbf7703d6401b1f10c283d4"), looks := false }, kinds := [], alts := [], laidByText := true, laidKinds := [.data, .data, .data], laidTests := true, laidLooks := .later }
def ClockSplitsCardSaid : Prop := Claim7.holds Tryd.pinned (.plain (OpenSpec.ofChange clockSplitsSpec)) clockSplitsCard

/-- THE TIED CARD OF 'transitlaw01.ClockJoins'. -/
def clockJoinsCard : Claim7 := { stood := { row := clockJoinsRow, standIns := [], harness := (true, "9c867685d693685d91119718b4ef8164977a5180ecbf7703d6401b1f10c283d4"), looks := false }, kinds := [], alts := [], laidByText := true, laidKinds := [.data, .data, .data], laidTests := true, laidLooks := .later }
def ClockJoinsCardSaid : Prop := Claim7.holds Tryd.pinned (.plain (OpenSpec.ofChange clockJoinsSpec)) clockJoinsCard

/-- THE TIED CARD OF 'transitlaw01.ClockFormats'. -/
def clockFormatsCard : Claim7 := { stood := { row := clockFormatsRow, standIns := [], harness := (true, "9c867685d693685d91119718b4ef8164977a5180ecbf7703d6401b1f10c283d4"), looks := false }, kinds := [], alts := [], laidByText := true, laidKinds := [.data, .data, .data], laidTests := true, laidLooks := .later }
def ClockFormatsCardSaid : Prop := Claim7.holds Tryd.pinned (.plain (OpenSpec.ofChange clockFormatsSpec)) clockFormatsCard

/-- THE TIED CARD OF 'transitlaw01.ClockParses'. -/
def clockParsesCard : Claim7 := { stood := { row := clockParsesRow, standIns := [], harness := (true, "9c867685d693685d91119718b4ef8164977a5180ecbf7703d6401b1f10c283d4"), looks := false }, kinds := [], alts := [], laidByText := true, laidKinds := [.data, .data, .data], laidTests := true, laidLooks := .later }
def ClockParsesCardSaid : Prop := Claim7.holds Tryd.pinned (.plain (OpenSpec.ofChange clockParsesSpec)) clockParsesCard

/-- THE TIED CARD OF 'transitlaw01.ClockOrders'. -/
def clockOrdersCard : Claim7 := { stood := { row := clockOrdersRow, standIns := [], harness := (true, "9c867685d693685d91119718b4ef8164977a5180ecbf7703d6401b1f10c283d4"), looks := false }, kinds := [], alts := [], laidByText := true, laidKinds := [.data, .data, .data], laidTests := true, laidLooks := .later }
def ClockOrdersCardSaid : Prop := Claim7.holds Tryd.pinned (.plain (OpenSpec.ofChange clockOrdersSpec)) clockOrdersCard

/-- THE TIED CARD OF 'transitlaw01.ClockCounts'. -/
def clockCountsCard : Claim7 := { stood := { row := clockCountsRow, standIns := [], harness := (true, "9c867685d693685d91119718b4ef8164977a5180ecbf7703d6401b1f10c283d4"), looks := false }, kinds := [], alts := [], laidByText := true, laidKinds := [.data, .data, .data], laidTests := true, laidLooks := .later }
def ClockCountsCardSaid : Prop := Claim7.holds Tryd.pinned (.plain (OpenSpec.ofChange clockCountsSpec)) clockCountsCard

/-- THE TIED CARD OF 'transitlaw01.ClockDurations'. -/
def clockDurationsCard : Claim7 := { stood := { row := clockDurationsRow, standIns := [], harness := (true, "9c867685d693685d91119718b4ef8164977a5180ecbf7703d6401b1f10c283d4"), looks := false }, kinds := [], alts := [], laidByText := true, laidKinds := [.data, .data, .data], laidTests := true, laidLooks := .later }
def ClockDurationsCardSaid : Prop := Claim7.holds Tryd.pinned (.plain (OpenSpec.ofChange clockDurationsSpec)) clockDurationsCard

/-- THE TIED CARD OF 'transitlaw01.ClockReads'. -/
def clockReadsCard : Claim7 := { stood := { row := clockReadsRow, standIns := [], harness := (true, "9c867685d693685d91119718b4ef8164977a5180ecbf7703d6401b1f10c283d4"), looks := false }, kinds := [], alts := [], laidByText := true, laidKinds := [.data, .data, .data], laidTests := true, laidLooks := .later }
def ClockReadsCardSaid : Prop := Claim7.holds Tryd.pinned (.plain (OpenSpec.ofChange clockReadsSpec)) clockReadsCard

/-- THE TIED CARD OF 'transitlaw01.ClockRoundTrip'. -/
def clockRoundTripCard : Claim7 := { stood := { row := clockRoundTripRow, standIns := [], harness := (true, "9c867685d693685d91119718b4ef8164977a5180ecbf7703d6401b1f10c283d4"), looks := false }, kinds := [], alts := [], laidByText := true, laidKinds := [.data, .data, .data], laidTests := true, laidLooks := .later }
def ClockRoundTripCardSaid : Prop := Claim7.holds Tryd.pinned (.plain (OpenSpec.ofChange clockRoundTripSpec)) clockRoundTripCard

/-- THE SECOND FORM's CARD OF 'transitlaw01.ClockSplits'. -/
def clockSplitsUptoCard : Claim7 := { stood := { row := clockSplitsUptoRow, standIns := [], harness := (true, "9c867685d693685d91119718b4ef8164977a5180ecbf7703d6401b1f10c283d4"), looks := false }, kinds := [], alts := [], laidByText := true, laidKinds := [.data, .data, .data], laidTests := true, laidLooks := .later }
def ClockSplitsUptoCardSaid : Prop := Claim7.holds Tryd.pinned (.plain (OpenSpec.upto clockSplitsSpec)) clockSplitsUptoCard

/-- THE SECOND FORM's CARD OF 'transitlaw01.ClockJoins'. -/
def clockJoinsUptoCard : Claim7 := { stood := { row := clockJoinsUptoRow, standIns := [], harness := (true, "9c867685d693685d91119718b4ef8164977a5180ecbf7703d6401b1f10c283d4"), looks := false }, kinds := [], alts := [], laidByText := true, laidKinds := [.data, .data, .data], laidTests := true, laidLooks := .later }
def ClockJoinsUptoCardSaid : Prop := Claim7.holds Tryd.pinned (.plain (OpenSpec.upto clockJoinsSpec)) clockJoinsUptoCard

/-- THE SECOND FORM's CARD OF 'transitlaw01.ClockFormats'. -/
def clockFormatsUptoCard : Claim7 := { stood := { row := clockFormatsUptoRow, standIns := [], harness := (true, "9c867685d693685d91119718b4ef8164977a5180ecbf7703d6401b1f10c283d4"), looks := false }, kinds := [], alts := [], laidByText := true, laidKinds := [.data, .data, .data], laidTests := true, laidLooks := .later }
def ClockFormatsUptoCardSaid : Prop := Claim7.holds Tryd.pinned (.plain (OpenSpec.upto clockFormatsSpec)) clockFormatsUptoCard

/-- THE SECOND FORM's CARD OF 'transitlaw01.ClockParses'. -/
def clockParsesUptoCard : Claim7 := { stood := { row := clockParsesUptoRow, standIns := [], harness := (true, "9c867685d693685d91119718b4ef8164977a5180ecbf7703d6401b1f10c283d4"), looks := false }, kinds := [], alts := [], laidByText := true, laidKinds := [.data, .data, .data], laidTests := true, laidLooks := .later }
def ClockParsesUptoCardSaid : Prop := Claim7.holds Tryd.pinned (.plain (OpenSpec.upto clockParsesSpec)) clockParsesUptoCard

/-- THE SECOND FORM's CARD OF 'transitlaw01.ClockOrders'. -/
def clockOrdersUptoCard : Claim7 := { stood := { row := clockOrdersUptoRow, standIns := [], harness := (true, "9c867685d693685d91119718b4ef8164977a5180ecbf7703d6401b1f10c283d4"), looks := false }, kinds := [], alts := [], laidByText := true, laidKinds := [.data, .data, .data], laidTests := true, laidLooks := .later }
def ClockOrdersUptoCardSaid : Prop := Claim7.holds Tryd.pinned (.plain (OpenSpec.upto clockOrdersSpec)) clockOrdersUptoCard

/-- THE SECOND FORM's CARD OF 'transitlaw01.ClockCounts'. -/
def clockCountsUptoCard : Claim7 := { stood := { row := clockCountsUptoRow, standIns := [], harness := (true, "9c867685d693685d91119718b4ef8164977a5180ecbf7703d6401b1f10c283d4"), looks := false }, kinds := [], alts := [], laidByText := true, laidKinds := [.data, .data, .data], laidTests := true, laidLooks := .later }
def ClockCountsUptoCardSaid : Prop := Claim7.holds Tryd.pinned (.plain (OpenSpec.upto clockCountsSpec)) clockCountsUptoCard

/-- THE SECOND FORM's CARD OF 'transitlaw01.ClockDurations'. -/
def clockDurationsUptoCard : Claim7 := { stood := { row := clockDurationsUptoRow, standIns := [], harness := (true, "9c867685d693685d91119718b4ef8164977a5180ecbf7703d6401b1f10c283d4"), looks := false }, kinds := [], alts := [], laidByText := true, laidKinds := [.data, .data, .data], laidTests := true, laidLooks := .later }
def ClockDurationsUptoCardSaid : Prop := Claim7.holds Tryd.pinned (.plain (OpenSpec.upto clockDurationsSpec)) clockDurationsUptoCard

/-- THE SECOND FORM's CARD OF 'transitlaw01.ClockReads'. -/
def clockReadsUptoCard : Claim7 := { stood := { row := clockReadsUptoRow, standIns := [], harness := (true, "9c867685d693685d91119718b4ef8164977a5180ecbf7703d6401b1f10c283d4"), looks := false }, kinds := [], alts := [], laidByText := true, laidKinds := [.data, .data, .data], laidTests := true, laidLooks := .later }
def ClockReadsUptoCardSaid : Prop := Claim7.holds Tryd.pinned (.plain (OpenSpec.upto clockReadsSpec)) clockReadsUptoCard

/-- THE SECOND FORM's CARD OF 'transitlaw01.ClockRoundTrip'. -/
def clockRoundTripUptoCard : Claim7 := { stood := { row := clockRoundTripUptoRow, standIns := [], harness := (true, "9c867685d693685d91119718b4ef8164977a5180ecbf7703d6401b1f10c283d4"), looks := false }, kinds := [], alts := [], laidByText := true, laidKinds := [.data, .data, .data], laidTests := true, laidLooks := .later }
def ClockRoundTripUptoCardSaid : Prop := Claim7.holds Tryd.pinned (.plain (OpenSpec.upto clockRoundTripSpec)) clockRoundTripUptoCard
end Rows
end Go.Proofs.YtnojjmpcgbbofaaDoor
