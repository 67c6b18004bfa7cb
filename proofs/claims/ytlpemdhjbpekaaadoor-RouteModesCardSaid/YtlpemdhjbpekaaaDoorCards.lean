/-
  DERIVED. GIVEN WITH THE SEED: THE CARDS: each row of YtlpemdhjbpekaaaDoorRows.lean that lists a variable, with what it lists TIED to the program's text (the seventh form; the later family's looks); each row that meets fmt, with fmt's text TOLD by the authors' own Lean function (tested against real Go, not proved from fmt's source: count such statements apart). THE CARD IS WHAT COUNTS. Prove the row's statement (the work); the ties are given (YtlpemdhjbpekaaaDoorTie.lean); close each card by the builder's one call (the guide's Derived/Test/ToyasCard.lean, 'card_holds'). Laid BY PROGRAM, IN A SANDBOX (cutbox-door.mjs). By AI agents, Wed Nov 11 2026. No macro, syntax, notation, axiom, sorry.
-/
import Derived.Test.YtlpemdhjbpekaaaDoorRows
import GoSem.ClaimSeven
namespace Go.Proofs.YtlpemdhjbpekaaaDoor
namespace Rows

/-- THE TIED CARD OF 'transitlaw15.RouteChecks'. -/
def routeChecksCard : Claim7 := { stood := { row := routeChecksRow, standIns := [], harness := (true, "fef2302b713e33fc2af47a134aec168742f233cb33c7a9fea90b8c8490bf4f21"), looks := false }, kinds := [], alts := [], laidByText := true, laidKinds := [.data, .data], laidTests := true, laidLooks := .later }
def RouteChecksCardSaid : Prop := Claim7.holds Tryd.pinned (.plain (OpenSpec.ofChange routeChecksSpec)) routeChecksCard

/-- THE TIED CARD OF 'transitlaw15.RouteNames'. -/
def routeNamesCard : Claim7 := { stood := { row := routeNamesRow, standIns := [], harness := (true, "fef2302b713e33fc2af47a134aec168742f233cb33c7a9fea90b8c8490bf4f21"), looks := false }, kinds := [], alts := [], laidByText := true, laidKinds := [.data, .data], laidTests := true, laidLooks := .later }
def RouteNamesCardSaid : Prop := Claim7.holds Tryd.pinned (.plain (OpenSpec.ofChange routeNamesSpec)) routeNamesCard

/-- THE TIED CARD OF 'transitlaw15.RouteSelects'. -/
def routeSelectsCard : Claim7 := { stood := { row := routeSelectsRow, standIns := [], harness := (true, "fef2302b713e33fc2af47a134aec168742f233cb33c7a9fea90b8c8490bf4f21"), looks := false }, kinds := [], alts := [], laidByText := true, laidKinds := [.data, .data], laidTests := true, laidLooks := .later }
def RouteSelectsCardSaid : Prop := Claim7.holds Tryd.pinned (.plain (OpenSpec.ofChange routeSelectsSpec)) routeSelectsCard

/-- THE TIED CARD OF 'transitlaw15.RouteTexts'. -/
def routeTextsCard : Claim7 := { stood := { row := routeTextsRow, standIns := [], harness := (true, "fef2302b713e33fc2af47a134aec168742f233cb33c7a9fea90b8c8490bf4f21"), looks := false }, kinds := [], alts := [], laidByText := true, laidKinds := [.data, .data], laidTests := true, laidLooks := .later }
def RouteTextsCardSaid : Prop := Claim7.holds Tryd.pinned (.plain (OpenSpec.ofChange routeTextsSpec)) routeTextsCard

/-- THE TIED CARD OF 'transitlaw15.RouteModes'. -/
def routeModesCard : Claim7 := { stood := { row := routeModesRow, standIns := [], harness := (true, "fef2302b713e33fc2af47a134aec168742f233cb33c7a9fea90b8c8490bf4f21"), looks := false }, kinds := [], alts := [], laidByText := true, laidKinds := [.data, .data], laidTests := true, laidLooks := .later }
def RouteModesCardSaid : Prop := Claim7.holds Tryd.pinned (.plain (OpenSpec.ofChange routeModesSpec)) routeModesCard

/-- THE SECOND FORM's CARD OF 'transitlaw15.RouteChecks'. -/
def routeChecksUptoCard : Claim7 := { stood := { row := routeChecksUptoRow, standIns := [], harness := (true, "fef2302b713e33fc2af47a134aec168742f233cb33c7a9fea90b8c8490bf4f21"), looks := false }, kinds := [], alts := [], laidByText := true, laidKinds := [.data, .data], laidTests := true, laidLooks := .later }
def RouteChecksUptoCardSaid : Prop := Claim7.holds Tryd.pinned (.plain (OpenSpec.upto routeChecksSpec)) routeChecksUptoCard

/-- THE SECOND FORM's CARD OF 'transitlaw15.RouteNames'. -/
def routeNamesUptoCard : Claim7 := { stood := { row := routeNamesUptoRow, standIns := [], harness := (true, "fef2302b713e33fc2af47a134aec168742f233cb33c7a9fea90b8c8490bf4f21"), looks := false }, kinds := [], alts := [], laidByText := true, laidKinds := [.data, .data], laidTests := true, laidLooks := .later }
def RouteNamesUptoCardSaid : Prop := Claim7.holds Tryd.pinned (.plain (OpenSpec.upto routeNamesSpec)) routeNamesUptoCard

/-- THE SECOND FORM's CARD OF 'transitlaw15.RouteSelects'. -/
def routeSelectsUptoCard : Claim7 := { stood := { row := routeSelectsUptoRow, standIns := [], harness := (true, "fef2302b713e33fc2af47a134aec168742f233cb33c7a9fea90b8c8490bf4f21"), looks := false }, kinds := [], alts := [], laidByText := true, laidKinds := [.data, .data], laidTests := true, laidLooks := .later }
def RouteSelectsUptoCardSaid : Prop := Claim7.holds Tryd.pinned (.plain (OpenSpec.upto routeSelectsSpec)) routeSelectsUptoCard

/-- THE SECOND FORM's CARD OF 'transitlaw15.RouteTexts'. -/
def routeTextsUptoCard : Claim7 := { stood := { row := routeTextsUptoRow, standIns := [], harness := (true, "fef2302b713e33fc2af47a134aec168742f233cb33c7a9fea90b8c8490bf4f21"), looks := false }, kinds := [], alts := [], laidByText := true, laidKinds := [.data, .data], laidTests := true, laidLooks := .later }
def RouteTextsUptoCardSaid : Prop := Claim7.holds Tryd.pinned (.plain (OpenSpec.upto routeTextsSpec)) routeTextsUptoCard

/-- THE SECOND FORM's CARD OF 'transitlaw15.RouteModes'. -/
def routeModesUptoCard : Claim7 := { stood := { row := routeModesUptoRow, standIns := [], harness := (true, "fef2302b713e33fc2af47a134aec168742f233cb33c7a9fea90b8c8490bf4f21"), looks := false }, kinds := [], alts := [], laidByText := true, laidKinds := [.data, .data], laidTests := true, laidLooks := .later }
def RouteModesUptoCardSaid : Prop := Claim7.holds Tryd.pinned (.plain (OpenSpec.upto routeModesSpec)) routeModesUptoCard
end Rows
end Go.Proofs.YtlpemdhjbpekaaaDoor
