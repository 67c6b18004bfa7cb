/-
  DERIVED. GIVEN WITH THE SEED: THE CARDS: each row of YtpifdbphmnifdaaGreatDoorRows.lean that lists a variable, with what it lists TIED to the program's text (the seventh form; the later family's looks); each row that meets fmt, with fmt's text TOLD by the authors' own Lean function (tested against real Go, not proved from fmt's source: count such statements apart). THE CARD IS WHAT COUNTS. Prove the row's statement (the work); the ties are given (YtpifdbphmnifdaaGreatDoorTie.lean); close each card by the builder's one call (the guide's Derived/Test/ToyasCard.lean, 'card_holds'). Laid BY PROGRAM, IN A SANDBOX (cutbox-door.mjs). By AI agents, Wed Nov 11 2026. No macro, syntax, notation, axiom, sorry.
-/
import Derived.Test.YtpifdbphmnifdaaGreatDoorRows
import GoSem.ClaimSeven
namespace Go.Proofs.YtpifdbphmnifdaaGreatDoor
namespace Rows

/-- THE TIED CARD OF 'transitlaw23.FeedParses'. -/
def feedParsesCard : Claim7 := { stood := { row := feedParsesRow, standIns := [], harness := (true, "802c25edcf61ddf32f7ec1e5b3e47ceafafc64a09c2ab635d1b2662a96f14f5e"), looks := true }, kinds := [], alts := [], laidByText := true, laidKinds := [.data, .data, .data, .data, .sentinel, .sentinel, .data, .data, .data, .pinned], laidTests := true, laidLooks := .later }
def FeedParsesCardSaid : Prop := Claim7.holds Tryz.pinned (.plain (OpenSpec.ofChange feedParsesSpec)) feedParsesCard

/-- THE TIED CARD OF 'transitlaw23.FeedFormats'. -/
def feedFormatsCard : Claim7 := { stood := { row := feedFormatsRow, standIns := [], harness := (true, "802c25edcf61ddf32f7ec1e5b3e47ceafafc64a09c2ab635d1b2662a96f14f5e"), looks := true }, kinds := [], alts := [], laidByText := true, laidKinds := [.data, .data, .data, .data, .sentinel, .sentinel, .data, .data, .data, .pinned], laidTests := true, laidLooks := .later }
def FeedFormatsCardSaid : Prop := Claim7.holds Tryz.pinned (.plain (OpenSpec.ofChange feedFormatsSpec)) feedFormatsCard

/-- THE TIED CARD OF 'transitlaw23.FeedRoundTrip'. -/
def feedRoundTripCard : Claim7 := { stood := { row := feedRoundTripRow, standIns := [], harness := (true, "802c25edcf61ddf32f7ec1e5b3e47ceafafc64a09c2ab635d1b2662a96f14f5e"), looks := true }, kinds := [], alts := [], laidByText := true, laidKinds := [.data, .data, .data, .data, .sentinel, .sentinel, .data, .data, .data, .pinned], laidTests := true, laidLooks := .later }
def FeedRoundTripCardSaid : Prop := Claim7.holds Tryz.pinned (.plain (OpenSpec.ofChange feedRoundTripSpec)) feedRoundTripCard

/-- THE TIED CARD OF 'transitlaw23.FeedCanonical'. -/
def feedCanonicalCard : Claim7 := { stood := { row := feedCanonicalRow, standIns := [], harness := (true, "802c25edcf61ddf32f7ec1e5b3e47ceafafc64a09c2ab635d1b2662a96f14f5e"), looks := true }, kinds := [], alts := [], laidByText := true, laidKinds := [.data, .data, .data, .data, .sentinel, .sentinel, .data, .data, .data, .pinned], laidTests := true, laidLooks := .later }
def FeedCanonicalCardSaid : Prop := Claim7.holds Tryz.pinned (.plain (OpenSpec.ofChange feedCanonicalSpec)) feedCanonicalCard

/-- THE TIED CARD OF 'transitlaw23.FeedIgnores'. -/
def feedIgnoresCard : Claim7 := { stood := { row := feedIgnoresRow, standIns := [], harness := (true, "802c25edcf61ddf32f7ec1e5b3e47ceafafc64a09c2ab635d1b2662a96f14f5e"), looks := true }, kinds := [], alts := [], laidByText := true, laidKinds := [.data, .data, .data, .data, .sentinel, .sentinel, .data, .data, .data, .pinned], laidTests := true, laidLooks := .later }
def FeedIgnoresCardSaid : Prop := Claim7.holds Tryz.pinned (.plain (OpenSpec.ofChange feedIgnoresSpec)) feedIgnoresCard

/-- THE TIED CARD OF 'transitlaw23.FeedLines'. -/
def feedLinesCard : Claim7 := { stood := { row := feedLinesRow, standIns := [], harness := (true, "802c25edcf61ddf32f7ec1e5b3e47ceafafc64a09c2ab635d1b2662a96f14f5e"), looks := true }, kinds := [], alts := [], laidByText := true, laidKinds := [.data, .data, .data, .data, .sentinel, .sentinel, .data, .data, .data, .pinned], laidTests := true, laidLooks := .later }
def FeedLinesCardSaid : Prop := Claim7.holds Tryz.pinned (.plain (OpenSpec.ofChange feedLinesSpec)) feedLinesCard

/-- THE SECOND FORM's CARD OF 'transitlaw23.FeedParses'. -/
def feedParsesUptoCard : Claim7 := { stood := { row := feedParsesUptoRow, standIns := [], harness := (true, "802c25edcf61ddf32f7ec1e5b3e47ceafafc64a09c2ab635d1b2662a96f14f5e"), looks := true }, kinds := [], alts := [], laidByText := true, laidKinds := [.data, .data, .data, .data, .sentinel, .sentinel, .data, .data, .data, .pinned], laidTests := true, laidLooks := .later }
def FeedParsesUptoCardSaid : Prop := Claim7.holds Tryz.pinned (.plain (OpenSpec.upto feedParsesSpec)) feedParsesUptoCard

/-- THE SECOND FORM's CARD OF 'transitlaw23.FeedFormats'. -/
def feedFormatsUptoCard : Claim7 := { stood := { row := feedFormatsUptoRow, standIns := [], harness := (true, "802c25edcf61ddf32f7ec1e5b3e47ceafafc64a09c2ab635d1b2662a96f14f5e"), looks := true }, kinds := [], alts := [], laidByText := true, laidKinds := [.data, .data, .data, .data, .sentinel, .sentinel, .data, .data, .data, .pinned], laidTests := true, laidLooks := .later }
def FeedFormatsUptoCardSaid : Prop := Claim7.holds Tryz.pinned (.plain (OpenSpec.upto feedFormatsSpec)) feedFormatsUptoCard

/-- THE SECOND FORM's CARD OF 'transitlaw23.FeedRoundTrip'. -/
def feedRoundTripUptoCard : Claim7 := { stood := { row := feedRoundTripUptoRow, standIns := [], harness := (true, "802c25edcf61ddf32f7ec1e5b3e47ceafafc64a09c2ab635d1b2662a96f14f5e"), looks := true }, kinds := [], alts := [], laidByText := true, laidKinds := [.data, .data, .data, .data, .sentinel, .sentinel, .data, .data, .data, .pinned], laidTests := true, laidLooks := .later }
def FeedRoundTripUptoCardSaid : Prop := Claim7.holds Tryz.pinned (.plain (OpenSpec.upto feedRoundTripSpec)) feedRoundTripUptoCard

/-- THE SECOND FORM's CARD OF 'transitlaw23.FeedCanonical'. -/
def feedCanonicalUptoCard : Claim7 := { stood := { row := feedCanonicalUptoRow, standIns := [], harness := (true, "802c25edcf61ddf32f7ec1e5b3e47ceafafc64a09c2ab635d1b2662a96f14f5e"), looks := true }, kinds := [], alts := [], laidByText := true, laidKinds := [.data, .data, .data, .data, .sentinel, .sentinel, .data, .data, .data, .pinned], laidTests := true, laidLooks := .later }
def FeedCanonicalUptoCardSaid : Prop := Claim7.holds Tryz.pinned (.plain (OpenSpec.upto feedCanonicalSpec)) feedCanonicalUptoCard

/-- THE SECOND FORM's CARD OF 'transitlaw23.FeedIgnores'. -/
def feedIgnoresUptoCard : Claim7 := { stood := { row := feedIgnoresUptoRow, standIns := [], harness := (true, "802c25edcf61ddf32f7ec1e5b3e47ceafafc64a09c2ab635d1b2662a96f14f5e"), looks := true }, kinds := [], alts := [], laidByText := true, laidKinds := [.data, .data, .data, .data, .sentinel, .sentinel, .data, .data, .data, .pinned], laidTests := true, laidLooks := .later }
def FeedIgnoresUptoCardSaid : Prop := Claim7.holds Tryz.pinned (.plain (OpenSpec.upto feedIgnoresSpec)) feedIgnoresUptoCard

/-- THE SECOND FORM's CARD OF 'transitlaw23.FeedLines'. -/
def feedLinesUptoCard : Claim7 := { stood := { row := feedLinesUptoRow, standIns := [], harness := (true, "802c25edcf61ddf32f7ec1e5b3e47ceafafc64a09c2ab635d1b2662a96f14f5e"), looks := true }, kinds := [], alts := [], laidByText := true, laidKinds := [.data, .data, .data, .data, .sentinel, .sentinel, .data, .data, .data, .pinned], laidTests := true, laidLooks := .later }
def FeedLinesUptoCardSaid : Prop := Claim7.holds Tryz.pinned (.plain (OpenSpec.upto feedLinesSpec)) feedLinesUptoCard
end Rows
end Go.Proofs.YtpifdbphmnifdaaGreatDoor
