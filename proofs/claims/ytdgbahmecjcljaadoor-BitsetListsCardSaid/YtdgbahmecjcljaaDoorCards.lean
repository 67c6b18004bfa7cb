/-
  DERIVED. GIVEN WITH THE SEED: THE CARDS: each row of YtdgbahmecjcljaaDoorRows.lean that lists a variable, with what it lists TIED to the program's text (the seventh form; the later family's looks); each row that meets fmt, with fmt's text TOLD by the authors' own Lean function (tested against real Go, not proved from fmt's source: count such statements apart). THE CARD IS WHAT COUNTS. Prove the row's statement (the work); the ties are given (YtdgbahmecjcljaaDoorTie.lean); close each card by the builder's one call (the guide's Derived/Test/ToyasCard.lean, 'card_holds'). Laid BY PROGRAM, IN A SANDBOX (cutbox-door.mjs). By AI agents, Wed Nov 11 2026. No macro, syntax, notation, axiom, sorry.
-/
import Derived.Test.YtdgbahmecjcljaaDoorRows
import GoSem.ClaimSeven
namespace Go.Proofs.YtdgbahmecjcljaaDoor
namespace Rows

/-- THE TIED CARD OF 'transitlaw06.BitsetMakes'. -/
def bitsetMakesCard : Claim7 := { stood := { row := bitsetMakesRow, standIns := [], harness := (true, "adaca5950a5399255cde0bcf44b5673c65b6abeaabb118a631b16d7dd91a271a"), looks := false }, kinds := [], alts := [], laidByText := true, laidKinds := [.data], laidTests := true, laidLooks := .later }
def BitsetMakesCardSaid : Prop := Claim7.holds Tryd.pinned (.plain (OpenSpec.ofChange bitsetMakesSpec)) bitsetMakesCard

/-- THE TIED CARD OF 'transitlaw06.BitsetElements'. -/
def bitsetElementsCard : Claim7 := { stood := { row := bitsetElementsRow, standIns := [], harness := (true, "adaca5950a5399255cde0bcf44b5673c65b6abeaabb118a631b16d7dd91a271a"), looks := false }, kinds := [], alts := [], laidByText := true, laidKinds := [.data], laidTests := true, laidLooks := .later }
def BitsetElementsCardSaid : Prop := Claim7.holds Tryd.pinned (.plain (OpenSpec.ofChange bitsetElementsSpec)) bitsetElementsCard

/-- THE TIED CARD OF 'transitlaw06.BitsetCombines'. -/
def bitsetCombinesCard : Claim7 := { stood := { row := bitsetCombinesRow, standIns := [], harness := (true, "adaca5950a5399255cde0bcf44b5673c65b6abeaabb118a631b16d7dd91a271a"), looks := false }, kinds := [], alts := [], laidByText := true, laidKinds := [.data], laidTests := true, laidLooks := .later }
def BitsetCombinesCardSaid : Prop := Claim7.holds Tryd.pinned (.plain (OpenSpec.ofChange bitsetCombinesSpec)) bitsetCombinesCard

/-- THE TIED CARD OF 'transitlaw06.BitsetLists'. -/
def bitsetListsCard : Claim7 := { stood := { row := bitsetListsRow, standIns := [], harness := (true, "adaca5950a5399255cde0bcf44b5673c65b6abeaabb118a631b16d7dd91a271a"), looks := false }, kinds := [], alts := [], laidByText := true, laidKinds := [.data], laidTests := true, laidLooks := .later }
def BitsetListsCardSaid : Prop := Claim7.holds Tryd.pinned (.plain (OpenSpec.ofChange bitsetListsSpec)) bitsetListsCard

/-- THE TIED CARD OF 'transitlaw06.BitsetIterates'. -/
def bitsetIteratesCard : Claim7 := { stood := { row := bitsetIteratesRow, standIns := [], harness := (true, "adaca5950a5399255cde0bcf44b5673c65b6abeaabb118a631b16d7dd91a271a"), looks := false }, kinds := [], alts := [], laidByText := true, laidKinds := [.data], laidTests := true, laidLooks := .later }
def BitsetIteratesCardSaid : Prop := Claim7.holds Tryd.pinned (.plain (OpenSpec.ofChange bitsetIteratesSpec)) bitsetIteratesCard

/-- THE TIED CARD OF 'transitlaw06.BitsetAlgebra'. -/
def bitsetAlgebraCard : Claim7 := { stood := { row := bitsetAlgebraRow, standIns := [], harness := (true, "adaca5950a5399255cde0bcf44b5673c65b6abeaabb118a631b16d7dd91a271a"), looks := false }, kinds := [], alts := [], laidByText := true, laidKinds := [.data], laidTests := true, laidLooks := .later }
def BitsetAlgebraCardSaid : Prop := Claim7.holds Tryd.pinned (.plain (OpenSpec.ofChange bitsetAlgebraSpec)) bitsetAlgebraCard

/-- THE TIED CARD OF 'transitlaw06.BitsetMembers'. -/
def bitsetMembersCard : Claim7 := { stood := { row := bitsetMembersRow, standIns := [], harness := (true, "adaca5950a5399255cde0bcf44b5673c65b6abeaabb118a631b16d7dd91a271a"), looks := false }, kinds := [], alts := [], laidByText := true, laidKinds := [.data], laidTests := true, laidLooks := .later }
def BitsetMembersCardSaid : Prop := Claim7.holds Tryd.pinned (.plain (OpenSpec.ofChange bitsetMembersSpec)) bitsetMembersCard

/-- THE SECOND FORM's CARD OF 'transitlaw06.BitsetMakes'. -/
def bitsetMakesUptoCard : Claim7 := { stood := { row := bitsetMakesUptoRow, standIns := [], harness := (true, "adaca5950a5399255cde0bcf44b5673c65b6abeaabb118a631b16d7dd91a271a"), looks := false }, kinds := [], alts := [], laidByText := true, laidKinds := [.data], laidTests := true, laidLooks := .later }
def BitsetMakesUptoCardSaid : Prop := Claim7.holds Tryd.pinned (.plain (OpenSpec.upto bitsetMakesSpec)) bitsetMakesUptoCard

/-- THE SECOND FORM's CARD OF 'transitlaw06.BitsetElements'. -/
def bitsetElementsUptoCard : Claim7 := { stood := { row := bitsetElementsUptoRow, standIns := [], harness := (true, "adaca5950a5399255cde0bcf44b5673c65b6abeaabb118a631b16d7dd91a271a"), looks := false }, kinds := [], alts := [], laidByText := true, laidKinds := [.data], laidTests := true, laidLooks := .later }
def BitsetElementsUptoCardSaid : Prop := Claim7.holds Tryd.pinned (.plain (OpenSpec.upto bitsetElementsSpec)) bitsetElementsUptoCard

/-- THE SECOND FORM's CARD OF 'transitlaw06.BitsetCombines'. -/
def bitsetCombinesUptoCard : Claim7 := { stood := { row := bitsetCombinesUptoRow, standIns := [], harness := (true, "adaca5950a5399255cde0bcf44b5673c65b6abeaabb118a631b16d7dd91a271a"), looks := false }, kinds := [], alts := [], laidByText := true, laidKinds := [.data], laidTests := true, laidLooks := .later }
def BitsetCombinesUptoCardSaid : Prop := Claim7.holds Tryd.pinned (.plain (OpenSpec.upto bitsetCombinesSpec)) bitsetCombinesUptoCard

/-- THE SECOND FORM's CARD OF 'transitlaw06.BitsetLists'. -/
def bitsetListsUptoCard : Claim7 := { stood := { row := bitsetListsUptoRow, standIns := [], harness := (true, "adaca5950a5399255cde0bcf44b5673c65b6abeaabb118a631b16d7dd91a271a"), looks := false }, kinds := [], alts := [], laidByText := true, laidKinds := [.data], laidTests := true, laidLooks := .later }
def BitsetListsUptoCardSaid : Prop := Claim7.holds Tryd.pinned (.plain (OpenSpec.upto bitsetListsSpec)) bitsetListsUptoCard

/-- THE SECOND FORM's CARD OF 'transitlaw06.BitsetIterates'. -/
def bitsetIteratesUptoCard : Claim7 := { stood := { row := bitsetIteratesUptoRow, standIns := [], harness := (true, "adaca5950a5399255cde0bcf44b5673c65b6abeaabb118a631b16d7dd91a271a"), looks := false }, kinds := [], alts := [], laidByText := true, laidKinds := [.data], laidTests := true, laidLooks := .later }
def BitsetIteratesUptoCardSaid : Prop := Claim7.holds Tryd.pinned (.plain (OpenSpec.upto bitsetIteratesSpec)) bitsetIteratesUptoCard

/-- THE SECOND FORM's CARD OF 'transitlaw06.BitsetAlgebra'. -/
def bitsetAlgebraUptoCard : Claim7 := { stood := { row := bitsetAlgebraUptoRow, standIns := [], harness := (true, "adaca5950a5399255cde0bcf44b5673c65b6abeaabb118a631b16d7dd91a271a"), looks := false }, kinds := [], alts := [], laidByText := true, laidKinds := [.data], laidTests := true, laidLooks := .later }
def BitsetAlgebraUptoCardSaid : Prop := Claim7.holds Tryd.pinned (.plain (OpenSpec.upto bitsetAlgebraSpec)) bitsetAlgebraUptoCard

/-- THE SECOND FORM's CARD OF 'transitlaw06.BitsetMembers'. -/
def bitsetMembersUptoCard : Claim7 := { stood := { row := bitsetMembersUptoRow, standIns := [], harness := (true, "adaca5950a5399255cde0bcf44b5673c65b6abeaabb118a631b16d7dd91a271a"), looks := false }, kinds := [], alts := [], laidByText := true, laidKinds := [.data], laidTests := true, laidLooks := .later }
def BitsetMembersUptoCardSaid : Prop := Claim7.holds Tryd.pinned (.plain (OpenSpec.upto bitsetMembersSpec)) bitsetMembersUptoCard
end Rows
end Go.Proofs.YtdgbahmecjcljaaDoor
