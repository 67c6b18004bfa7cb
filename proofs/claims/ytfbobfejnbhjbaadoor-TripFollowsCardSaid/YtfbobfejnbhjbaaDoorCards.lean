/-
  DERIVED. GIVEN WITH THE SEED: THE CARDS: each row of YtfbobfejnbhjbaaDoorRows.lean that lists a variable, with what it lists TIED to the program's text (the seventh form; the later family's looks); each row that meets fmt, with fmt's text TOLD by the authors' own Lean function (tested against real Go, not proved from fmt's source: count such statements apart). THE CARD IS WHAT COUNTS. Prove the row's statement (the work); the ties are given (YtfbobfejnbhjbaaDoorTie.lean); close each card by the builder's one call (the guide's Derived/Test/ToyasCard.lean, 'card_holds'). Laid BY PROGRAM, IN A SANDBOX (cutbox-door.mjs). By AI agents, Wed Nov 11 2026. No macro, syntax, notation, axiom, sorry.
-/
import Derived.Test.YtfbobfejnbhjbaaDoorRows
import GoSem.ClaimSeven
namespace Go.Proofs.YtfbobfejnbhjbaaDoor
namespace Rows

/-- THE TIED CARD OF 'transitlaw17.TripChecks'. -/
def tripChecksCard : Claim7 := { stood := { row := tripChecksRow, standIns := [], harness := (true, "f07ea93e949dd8ea32db35bc25b6510ca3c238d111fe4a18def748bb99b5b761"), looks := false }, kinds := [], alts := [], laidByText := true, laidKinds := [.data, .data, .data], laidTests := true, laidLooks := .later }
def TripChecksCardSaid : Prop := Claim7.holds Tryd.pinned (.plain (OpenSpec.ofChange tripChecksSpec)) tripChecksCard

/-- THE TIED CARD OF 'transitlaw17.TripFinds'. -/
def tripFindsCard : Claim7 := { stood := { row := tripFindsRow, standIns := [], harness := (true, "f07ea93e949dd8ea32db35bc25b6510ca3c238d111fe4a18def748bb99b5b761"), looks := false }, kinds := [], alts := [], laidByText := true, laidKinds := [.data, .data, .data], laidTests := true, laidLooks := .later }
def TripFindsCardSaid : Prop := Claim7.holds Tryd.pinned (.plain (OpenSpec.ofChange tripFindsSpec)) tripFindsCard

/-- THE TIED CARD OF 'transitlaw17.TripPatterns'. -/
def tripPatternsCard : Claim7 := { stood := { row := tripPatternsRow, standIns := [], harness := (true, "f07ea93e949dd8ea32db35bc25b6510ca3c238d111fe4a18def748bb99b5b761"), looks := false }, kinds := [], alts := [], laidByText := true, laidKinds := [.data, .data, .data], laidTests := true, laidLooks := .later }
def TripPatternsCardSaid : Prop := Claim7.holds Tryd.pinned (.plain (OpenSpec.ofChange tripPatternsSpec)) tripPatternsCard

/-- THE TIED CARD OF 'transitlaw17.TripGroups'. -/
def tripGroupsCard : Claim7 := { stood := { row := tripGroupsRow, standIns := [], harness := (true, "f07ea93e949dd8ea32db35bc25b6510ca3c238d111fe4a18def748bb99b5b761"), looks := false }, kinds := [], alts := [], laidByText := true, laidKinds := [.data, .data, .data], laidTests := true, laidLooks := .later }
def TripGroupsCardSaid : Prop := Claim7.holds Tryd.pinned (.plain (OpenSpec.ofChange tripGroupsSpec)) tripGroupsCard

/-- THE TIED CARD OF 'transitlaw17.TripOvertakes'. -/
def tripOvertakesCard : Claim7 := { stood := { row := tripOvertakesRow, standIns := [], harness := (true, "f07ea93e949dd8ea32db35bc25b6510ca3c238d111fe4a18def748bb99b5b761"), looks := false }, kinds := [], alts := [], laidByText := true, laidKinds := [.data, .data, .data], laidTests := true, laidLooks := .later }
def TripOvertakesCardSaid : Prop := Claim7.holds Tryd.pinned (.plain (OpenSpec.ofChange tripOvertakesSpec)) tripOvertakesCard

/-- THE TIED CARD OF 'transitlaw17.TripConnects'. -/
def tripConnectsCard : Claim7 := { stood := { row := tripConnectsRow, standIns := [], harness := (true, "f07ea93e949dd8ea32db35bc25b6510ca3c238d111fe4a18def748bb99b5b761"), looks := false }, kinds := [], alts := [], laidByText := true, laidKinds := [.data, .data, .data], laidTests := true, laidLooks := .later }
def TripConnectsCardSaid : Prop := Claim7.holds Tryd.pinned (.plain (OpenSpec.ofChange tripConnectsSpec)) tripConnectsCard

/-- THE TIED CARD OF 'transitlaw17.TripPartition'. -/
def tripPartitionCard : Claim7 := { stood := { row := tripPartitionRow, standIns := [], harness := (true, "f07ea93e949dd8ea32db35bc25b6510ca3c238d111fe4a18def748bb99b5b761"), looks := false }, kinds := [], alts := [], laidByText := true, laidKinds := [.data, .data, .data], laidTests := true, laidLooks := .later }
def TripPartitionCardSaid : Prop := Claim7.holds Tryd.pinned (.plain (OpenSpec.ofChange tripPartitionSpec)) tripPartitionCard

/-- THE TIED CARD OF 'transitlaw17.TripFollows'. -/
def tripFollowsCard : Claim7 := { stood := { row := tripFollowsRow, standIns := [], harness := (true, "f07ea93e949dd8ea32db35bc25b6510ca3c238d111fe4a18def748bb99b5b761"), looks := false }, kinds := [], alts := [], laidByText := true, laidKinds := [.data, .data, .data], laidTests := true, laidLooks := .later }
def TripFollowsCardSaid : Prop := Claim7.holds Tryd.pinned (.plain (OpenSpec.ofChange tripFollowsSpec)) tripFollowsCard

/-- THE TIED CARD OF 'transitlaw17.TripPasses'. -/
def tripPassesCard : Claim7 := { stood := { row := tripPassesRow, standIns := [], harness := (true, "f07ea93e949dd8ea32db35bc25b6510ca3c238d111fe4a18def748bb99b5b761"), looks := false }, kinds := [], alts := [], laidByText := true, laidKinds := [.data, .data, .data], laidTests := true, laidLooks := .later }
def TripPassesCardSaid : Prop := Claim7.holds Tryd.pinned (.plain (OpenSpec.ofChange tripPassesSpec)) tripPassesCard

/-- THE SECOND FORM's CARD OF 'transitlaw17.TripChecks'. -/
def tripChecksUptoCard : Claim7 := { stood := { row := tripChecksUptoRow, standIns := [], harness := (true, "f07ea93e949dd8ea32db35bc25b6510ca3c238d111fe4a18def748bb99b5b761"), looks := false }, kinds := [], alts := [], laidByText := true, laidKinds := [.data, .data, .data], laidTests := true, laidLooks := .later }
def TripChecksUptoCardSaid : Prop := Claim7.holds Tryd.pinned (.plain (OpenSpec.upto tripChecksSpec)) tripChecksUptoCard

/-- THE SECOND FORM's CARD OF 'transitlaw17.TripFinds'. -/
def tripFindsUptoCard : Claim7 := { stood := { row := tripFindsUptoRow, standIns := [], harness := (true, "f07ea93e949dd8ea32db35bc25b6510ca3c238d111fe4a18def748bb99b5b761"), looks := false }, kinds := [], alts := [], laidByText := true, laidKinds := [.data, .data, .data], laidTests := true, laidLooks := .later }
def TripFindsUptoCardSaid : Prop := Claim7.holds Tryd.pinned (.plain (OpenSpec.upto tripFindsSpec)) tripFindsUptoCard

/-- THE SECOND FORM's CARD OF 'transitlaw17.TripPatterns'. -/
def tripPatternsUptoCard : Claim7 := { stood := { row := tripPatternsUptoRow, standIns := [], harness := (true, "f07ea93e949dd8ea32db35bc25b6510ca3c238d111fe4a18def748bb99b5b761"), looks := false }, kinds := [], alts := [], laidByText := true, laidKinds := [.data, .data, .data], laidTests := true, laidLooks := .later }
def TripPatternsUptoCardSaid : Prop := Claim7.holds Tryd.pinned (.plain (OpenSpec.upto tripPatternsSpec)) tripPatternsUptoCard

/-- THE SECOND FORM's CARD OF 'transitlaw17.TripGroups'. -/
def tripGroupsUptoCard : Claim7 := { stood := { row := tripGroupsUptoRow, standIns := [], harness := (true, "f07ea93e949dd8ea32db35bc25b6510ca3c238d111fe4a18def748bb99b5b761"), looks := false }, kinds := [], alts := [], laidByText := true, laidKinds := [.data, .data, .data], laidTests := true, laidLooks := .later }
def TripGroupsUptoCardSaid : Prop := Claim7.holds Tryd.pinned (.plain (OpenSpec.upto tripGroupsSpec)) tripGroupsUptoCard

/-- THE SECOND FORM's CARD OF 'transitlaw17.TripOvertakes'. -/
def tripOvertakesUptoCard : Claim7 := { stood := { row := tripOvertakesUptoRow, standIns := [], harness := (true, "f07ea93e949dd8ea32db35bc25b6510ca3c238d111fe4a18def748bb99b5b761"), looks := false }, kinds := [], alts := [], laidByText := true, laidKinds := [.data, .data, .data], laidTests := true, laidLooks := .later }
def TripOvertakesUptoCardSaid : Prop := Claim7.holds Tryd.pinned (.plain (OpenSpec.upto tripOvertakesSpec)) tripOvertakesUptoCard

/-- THE SECOND FORM's CARD OF 'transitlaw17.TripConnects'. -/
def tripConnectsUptoCard : Claim7 := { stood := { row := tripConnectsUptoRow, standIns := [], harness := (true, "f07ea93e949dd8ea32db35bc25b6510ca3c238d111fe4a18def748bb99b5b761"), looks := false }, kinds := [], alts := [], laidByText := true, laidKinds := [.data, .data, .data], laidTests := true, laidLooks := .later }
def TripConnectsUptoCardSaid : Prop := Claim7.holds Tryd.pinned (.plain (OpenSpec.upto tripConnectsSpec)) tripConnectsUptoCard

/-- THE SECOND FORM's CARD OF 'transitlaw17.TripPartition'. -/
def tripPartitionUptoCard : Claim7 := { stood := { row := tripPartitionUptoRow, standIns := [], harness := (true, "f07ea93e949dd8ea32db35bc25b6510ca3c238d111fe4a18def748bb99b5b761"), looks := false }, kinds := [], alts := [], laidByText := true, laidKinds := [.data, .data, .data], laidTests := true, laidLooks := .later }
def TripPartitionUptoCardSaid : Prop := Claim7.holds Tryd.pinned (.plain (OpenSpec.upto tripPartitionSpec)) tripPartitionUptoCard

/-- THE SECOND FORM's CARD OF 'transitlaw17.TripFollows'. -/
def tripFollowsUptoCard : Claim7 := { stood := { row := tripFollowsUptoRow, standIns := [], harness := (true, "f07ea93e949dd8ea32db35bc25b6510ca3c238d111fe4a18def748bb99b5b761"), looks := false }, kinds := [], alts := [], laidByText := true, laidKinds := [.data, .data, .data], laidTests := true, laidLooks := .later }
def TripFollowsUptoCardSaid : Prop := Claim7.holds Tryd.pinned (.plain (OpenSpec.upto tripFollowsSpec)) tripFollowsUptoCard

/-- THE SECOND FORM's CARD OF 'transitlaw17.TripPasses'. -/
def tripPassesUptoCard : Claim7 := { stood := { row := tripPassesUptoRow, standIns := [], harness := (true, "f07ea93e949dd8ea32db35bc25b6510ca3c238d111fe4a18def748bb99b5b761"), looks := false }, kinds := [], alts := [], laidByText := true, laidKinds := [.data, .data, .data], laidTests := true, laidLooks := .later }
def TripPassesUptoCardSaid : Prop := Claim7.holds Tryd.pinned (.plain (OpenSpec.upto tripPassesSpec)) tripPassesUptoCard
end Rows
end Go.Proofs.YtfbobfejnbhjbaaDoor
