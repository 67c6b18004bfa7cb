/-
  No cell of these rows narrows 'for every input' (looked for: loops, veiled, ifaces, maps, wideKeys, modest, calm, conditions, laid).
  DERIVED. THE GIVEN ROWS OF THIS SEAT. 8 by the template 'for every input the law returns true; each argument reads behind the call as it read before'; 0 by the template 'total and deterministic' (their statements: YtgdlibmgmokfaaaTotals.lean).
  GIVEN WITH THE SEED: the statements are not yours to turn. If you find one false, say at which input.
  Laid BY PROGRAM, IN A SANDBOX (cutbox-rows.mjs): the forced cells as the released guide's own fill.sh prints them over the translation ee9766bebeb44bd2… (all of the seat's roots in one cut). By AI agents, Wed Nov 11 2026. No macro, syntax, notation, axiom, sorry.
-/
import Derived.Test.YtgdlibmgmokfaaaChecked
import GoSem.Claim
import GoSem.ClaimJoined
import GoSem.ClaimMapViews
import Derived.JoinedTies
import Derived.KernelRfl
namespace Go.Proofs.Ytgdlibmgmokfaaa
/- THE CELL 'sum', in the pinned program and in every row, IS THE sha256 OF THE DUMP (.gsa) THAT YtgdlibmgmokfaaaProg.lean LOADS. Nothing in Lean hashes anything: it is a label: what it is worth is what the hold of that sum in a sandbox is worth. -/
noncomputable def Try.pinned : Pinned := { name := "ytgdlibmgmokfaaa", sum := "ee9766bebeb44bd290aa00af7f644f89eba4c0c7fb7341fa428cabaf9a37c787", checked := Try.checked }
namespace Rows
def none {H : Type} : Left H := { results := [], args := [] }

/-- 'transitlaw16.CallChecks': WHATEVER THE INPUT: true; the input reads as it did. -/
def callChecksSpec : ChangeSpec := { name := "callChecks", fn := fun _ => fun
  | [d1, d2] => { results := [.lit (.bool true)], args := [d1, d2] }
  | _ => none }
def callChecksRow : OpenClaim := { program := "ytgdlibmgmokfaaa", sum := "ee9766bebeb44bd290aa00af7f644f89eba4c0c7fb7341fa428cabaf9a37c787", func := "transit/transitlaw16.CallChecks", spec := "callChecks", unfollowed := true, recurses := true, apart := false }
def CallChecksSaid : Prop := callChecksRow.holds Try.pinned (OpenSpec.ofChange callChecksSpec)

/-- ITS FALSE NEIGHBOUR: 'it returns false'. Refute it at one input. -/
def callChecksWrong : ChangeSpec := { name := "callChecks", fn := fun _ => fun
  | [d1, d2] => { results := [.lit (.bool false)], args := [d1, d2] }
  | _ => none }
def CallChecksWrongFalsely : Prop := callChecksRow.holds Try.pinned (OpenSpec.ofChange callChecksWrong)

/-- 'transitlaw16.CallShifts': WHATEVER THE INPUT: true; the input reads as it did. -/
def callShiftsSpec : ChangeSpec := { name := "callShifts", fn := fun _ => fun
  | [d1, d2] => { results := [.lit (.bool true)], args := [d1, d2] }
  | _ => none }
def callShiftsRow : OpenClaim := { program := "ytgdlibmgmokfaaa", sum := "ee9766bebeb44bd290aa00af7f644f89eba4c0c7fb7341fa428cabaf9a37c787", func := "transit/transitlaw16.CallShifts", spec := "callShifts", unfollowed := true, recurses := true, apart := false }
def CallShiftsSaid : Prop := callShiftsRow.holds Try.pinned (OpenSpec.ofChange callShiftsSpec)

/-- ITS FALSE NEIGHBOUR: 'it returns false'. Refute it at one input. -/
def callShiftsWrong : ChangeSpec := { name := "callShifts", fn := fun _ => fun
  | [d1, d2] => { results := [.lit (.bool false)], args := [d1, d2] }
  | _ => none }
def CallShiftsWrongFalsely : Prop := callShiftsRow.holds Try.pinned (OpenSpec.ofChange callShiftsWrong)

/-- 'transitlaw16.CallRidable': WHATEVER THE INPUT: true; the input reads as it did. -/
def callRidableSpec : ChangeSpec := { name := "callRidable", fn := fun _ => fun
  | [d1, d2, d3] => { results := [.lit (.bool true)], args := [d1, d2, d3] }
  | _ => none }
def callRidableRow : OpenClaim := { program := "ytgdlibmgmokfaaa", sum := "ee9766bebeb44bd290aa00af7f644f89eba4c0c7fb7341fa428cabaf9a37c787", func := "transit/transitlaw16.CallRidable", spec := "callRidable", unfollowed := true, recurses := true, apart := false }
def CallRidableSaid : Prop := callRidableRow.holds Try.pinned (OpenSpec.ofChange callRidableSpec)

/-- ITS FALSE NEIGHBOUR: 'it returns false'. Refute it at one input. -/
def callRidableWrong : ChangeSpec := { name := "callRidable", fn := fun _ => fun
  | [d1, d2, d3] => { results := [.lit (.bool false)], args := [d1, d2, d3] }
  | _ => none }
def CallRidableWrongFalsely : Prop := callRidableRow.holds Try.pinned (OpenSpec.ofChange callRidableWrong)

/-- 'transitlaw16.CallRides': WHATEVER THE INPUT: true; the input reads as it did. -/
def callRidesSpec : ChangeSpec := { name := "callRides", fn := fun _ => fun
  | [d1, d2] => { results := [.lit (.bool true)], args := [d1, d2] }
  | _ => none }
def callRidesRow : OpenClaim := { program := "ytgdlibmgmokfaaa", sum := "ee9766bebeb44bd290aa00af7f644f89eba4c0c7fb7341fa428cabaf9a37c787", func := "transit/transitlaw16.CallRides", spec := "callRides", unfollowed := true, recurses := true, apart := false }
def CallRidesSaid : Prop := callRidesRow.holds Try.pinned (OpenSpec.ofChange callRidesSpec)

/-- ITS FALSE NEIGHBOUR: 'it returns false'. Refute it at one input. -/
def callRidesWrong : ChangeSpec := { name := "callRides", fn := fun _ => fun
  | [d1, d2] => { results := [.lit (.bool false)], args := [d1, d2] }
  | _ => none }
def CallRidesWrongFalsely : Prop := callRidesRow.holds Try.pinned (OpenSpec.ofChange callRidesWrong)

/-- 'transitlaw16.CallLists': WHATEVER THE INPUT: true; the input reads as it did. -/
def callListsSpec : ChangeSpec := { name := "callLists", fn := fun _ => fun
  | [d1, d2] => { results := [.lit (.bool true)], args := [d1, d2] }
  | _ => none }
def callListsRow : OpenClaim := { program := "ytgdlibmgmokfaaa", sum := "ee9766bebeb44bd290aa00af7f644f89eba4c0c7fb7341fa428cabaf9a37c787", func := "transit/transitlaw16.CallLists", spec := "callLists", unfollowed := true, recurses := true, apart := false }
def CallListsSaid : Prop := callListsRow.holds Try.pinned (OpenSpec.ofChange callListsSpec)

/-- ITS FALSE NEIGHBOUR: 'it returns false'. Refute it at one input. -/
def callListsWrong : ChangeSpec := { name := "callLists", fn := fun _ => fun
  | [d1, d2] => { results := [.lit (.bool false)], args := [d1, d2] }
  | _ => none }
def CallListsWrongFalsely : Prop := callListsRow.holds Try.pinned (OpenSpec.ofChange callListsWrong)

/-- 'transitlaw16.CallEquals': WHATEVER THE INPUT: true; the input reads as it did. -/
def callEqualsSpec : ChangeSpec := { name := "callEquals", fn := fun _ => fun
  | [d1, d2] => { results := [.lit (.bool true)], args := [d1, d2] }
  | _ => none }
def callEqualsRow : OpenClaim := { program := "ytgdlibmgmokfaaa", sum := "ee9766bebeb44bd290aa00af7f644f89eba4c0c7fb7341fa428cabaf9a37c787", func := "transit/transitlaw16.CallEquals", spec := "callEquals", unfollowed := true, recurses := true, apart := false }
def CallEqualsSaid : Prop := callEqualsRow.holds Try.pinned (OpenSpec.ofChange callEqualsSpec)

/-- ITS FALSE NEIGHBOUR: 'it returns false'. Refute it at one input. -/
def callEqualsWrong : ChangeSpec := { name := "callEquals", fn := fun _ => fun
  | [d1, d2] => { results := [.lit (.bool false)], args := [d1, d2] }
  | _ => none }
def CallEqualsWrongFalsely : Prop := callEqualsRow.holds Try.pinned (OpenSpec.ofChange callEqualsWrong)

/-- 'transitlaw16.CallMoves': WHATEVER THE INPUT: true; the input reads as it did. -/
def callMovesSpec : ChangeSpec := { name := "callMoves", fn := fun _ => fun
  | [d1, d2, d3] => { results := [.lit (.bool true)], args := [d1, d2, d3] }
  | _ => none }
def callMovesRow : OpenClaim := { program := "ytgdlibmgmokfaaa", sum := "ee9766bebeb44bd290aa00af7f644f89eba4c0c7fb7341fa428cabaf9a37c787", func := "transit/transitlaw16.CallMoves", spec := "callMoves", unfollowed := true, recurses := true, apart := false }
def CallMovesSaid : Prop := callMovesRow.holds Try.pinned (OpenSpec.ofChange callMovesSpec)

/-- ITS FALSE NEIGHBOUR: 'it returns false'. Refute it at one input. -/
def callMovesWrong : ChangeSpec := { name := "callMoves", fn := fun _ => fun
  | [d1, d2, d3] => { results := [.lit (.bool false)], args := [d1, d2, d3] }
  | _ => none }
def CallMovesWrongFalsely : Prop := callMovesRow.holds Try.pinned (OpenSpec.ofChange callMovesWrong)

/-- 'transitlaw16.CallCounts': WHATEVER THE INPUT: true; the input reads as it did. -/
def callCountsSpec : ChangeSpec := { name := "callCounts", fn := fun _ => fun
  | [d1, d2] => { results := [.lit (.bool true)], args := [d1, d2] }
  | _ => none }
def callCountsRow : OpenClaim := { program := "ytgdlibmgmokfaaa", sum := "ee9766bebeb44bd290aa00af7f644f89eba4c0c7fb7341fa428cabaf9a37c787", func := "transit/transitlaw16.CallCounts", spec := "callCounts", unfollowed := true, recurses := true, apart := false }
def CallCountsSaid : Prop := callCountsRow.holds Try.pinned (OpenSpec.ofChange callCountsSpec)

/-- ITS FALSE NEIGHBOUR: 'it returns false'. Refute it at one input. -/
def callCountsWrong : ChangeSpec := { name := "callCounts", fn := fun _ => fun
  | [d1, d2] => { results := [.lit (.bool false)], args := [d1, d2] }
  | _ => none }
def CallCountsWrongFalsely : Prop := callCountsRow.holds Try.pinned (OpenSpec.ofChange callCountsWrong)

/- THE SECOND FORM. 'bulk': how many values and letters a reading holds, each counted each time it is reached (what is shared counts as often as it is met; a slice's spare places count too). A statement '..UptoSaid' is the law's where the arguments, and the package variables that the reading takes, are together of bulk at most 1048576: NARROWER than '..Said'. Prove '..Said' where nothing that the law and all that it calls make is longer than what came in: it says more and counts as full. Else prove '..UptoSaid'. A law counts once. -/
mutual
def uptoBulk {H : Type} : DataW H → Nat
  | .lit (.string bytes) => bytes.length + 1
  | .lit _ => 1
  | .nil => 1
  | .ptr d => uptoBulk d + 1
  | .slice elems spare => uptoBulkAll elems + uptoBulkAll spare + 1
  | .agg parts => uptoBulkAll parts + 1
  | .iface _ d => uptoBulk d + 1
  | .map entries => uptoBulkEntries entries + 1
  | .held _ => 1
def uptoBulkAll {H : Type} : List (DataW H) → Nat
  | [] => 0
  | d :: r => uptoBulk d + uptoBulkAll r
def uptoBulkEntries {H : Type} : List (Lit × DataW H) → Nat
  | [] => 0
  | x :: r => uptoBulkEntry x + uptoBulkEntries r
def uptoBulkEntry {H : Type} : Lit × DataW H → Nat
  | (.string bytes, d) => bytes.length + uptoBulk d + 1
  | (_, d) => uptoBulk d + 1
 end
def uptoSmall : (H : Type) → List (DataW H) → Bool := fun _ ds => decide (uptoBulkAll ds ≤ 1048576)
def OpenSpec.upto (s : _root_.Go.ChangeSpec) : _root_.Go.OpenSpec := { _root_.Go.OpenSpec.ofChange s with cond := some uptoSmall }

/-- 'transitlaw16.CallChecks', WHERE WHAT IT READS IS OF BULK AT MOST 1048576: true; the input reads as it did. -/
def callChecksUptoRow : OpenClaim := { program := "ytgdlibmgmokfaaa", sum := "ee9766bebeb44bd290aa00af7f644f89eba4c0c7fb7341fa428cabaf9a37c787", func := "transit/transitlaw16.CallChecks", spec := "callChecks", unfollowed := true, recurses := true, apart := false, narrowed := true }
def CallChecksUptoSaid : Prop := callChecksUptoRow.holds Try.pinned (OpenSpec.upto callChecksSpec)

/-- 'transitlaw16.CallShifts', WHERE WHAT IT READS IS OF BULK AT MOST 1048576: true; the input reads as it did. -/
def callShiftsUptoRow : OpenClaim := { program := "ytgdlibmgmokfaaa", sum := "ee9766bebeb44bd290aa00af7f644f89eba4c0c7fb7341fa428cabaf9a37c787", func := "transit/transitlaw16.CallShifts", spec := "callShifts", unfollowed := true, recurses := true, apart := false, narrowed := true }
def CallShiftsUptoSaid : Prop := callShiftsUptoRow.holds Try.pinned (OpenSpec.upto callShiftsSpec)

/-- 'transitlaw16.CallRidable', WHERE WHAT IT READS IS OF BULK AT MOST 1048576: true; the input reads as it did. -/
def callRidableUptoRow : OpenClaim := { program := "ytgdlibmgmokfaaa", sum := "ee9766bebeb44bd290aa00af7f644f89eba4c0c7fb7341fa428cabaf9a37c787", func := "transit/transitlaw16.CallRidable", spec := "callRidable", unfollowed := true, recurses := true, apart := false, narrowed := true }
def CallRidableUptoSaid : Prop := callRidableUptoRow.holds Try.pinned (OpenSpec.upto callRidableSpec)

/-- 'transitlaw16.CallRides', WHERE WHAT IT READS IS OF BULK AT MOST 1048576: true; the input reads as it did. -/
def callRidesUptoRow : OpenClaim := { program := "ytgdlibmgmokfaaa", sum := "ee9766bebeb44bd290aa00af7f644f89eba4c0c7fb7341fa428cabaf9a37c787", func := "transit/transitlaw16.CallRides", spec := "callRides", unfollowed := true, recurses := true, apart := false, narrowed := true }
def CallRidesUptoSaid : Prop := callRidesUptoRow.holds Try.pinned (OpenSpec.upto callRidesSpec)

/-- 'transitlaw16.CallLists', WHERE WHAT IT READS IS OF BULK AT MOST 1048576: true; the input reads as it did. -/
def callListsUptoRow : OpenClaim := { program := "ytgdlibmgmokfaaa", sum := "ee9766bebeb44bd290aa00af7f644f89eba4c0c7fb7341fa428cabaf9a37c787", func := "transit/transitlaw16.CallLists", spec := "callLists", unfollowed := true, recurses := true, apart := false, narrowed := true }
def CallListsUptoSaid : Prop := callListsUptoRow.holds Try.pinned (OpenSpec.upto callListsSpec)

/-- 'transitlaw16.CallEquals', WHERE WHAT IT READS IS OF BULK AT MOST 1048576: true; the input reads as it did. -/
def callEqualsUptoRow : OpenClaim := { program := "ytgdlibmgmokfaaa", sum := "ee9766bebeb44bd290aa00af7f644f89eba4c0c7fb7341fa428cabaf9a37c787", func := "transit/transitlaw16.CallEquals", spec := "callEquals", unfollowed := true, recurses := true, apart := false, narrowed := true }
def CallEqualsUptoSaid : Prop := callEqualsUptoRow.holds Try.pinned (OpenSpec.upto callEqualsSpec)

/-- 'transitlaw16.CallMoves', WHERE WHAT IT READS IS OF BULK AT MOST 1048576: true; the input reads as it did. -/
def callMovesUptoRow : OpenClaim := { program := "ytgdlibmgmokfaaa", sum := "ee9766bebeb44bd290aa00af7f644f89eba4c0c7fb7341fa428cabaf9a37c787", func := "transit/transitlaw16.CallMoves", spec := "callMoves", unfollowed := true, recurses := true, apart := false, narrowed := true }
def CallMovesUptoSaid : Prop := callMovesUptoRow.holds Try.pinned (OpenSpec.upto callMovesSpec)

/-- 'transitlaw16.CallCounts', WHERE WHAT IT READS IS OF BULK AT MOST 1048576: true; the input reads as it did. -/
def callCountsUptoRow : OpenClaim := { program := "ytgdlibmgmokfaaa", sum := "ee9766bebeb44bd290aa00af7f644f89eba4c0c7fb7341fa428cabaf9a37c787", func := "transit/transitlaw16.CallCounts", spec := "callCounts", unfollowed := true, recurses := true, apart := false, narrowed := true }
def CallCountsUptoSaid : Prop := callCountsUptoRow.holds Try.pinned (OpenSpec.upto callCountsSpec)

end Rows
end Go.Proofs.Ytgdlibmgmokfaaa
