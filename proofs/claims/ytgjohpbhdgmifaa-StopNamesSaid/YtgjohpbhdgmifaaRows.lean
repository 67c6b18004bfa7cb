/-
  No cell of these rows narrows 'for every input' (looked for: loops, veiled, ifaces, maps, wideKeys, modest, calm, conditions, laid).
  DERIVED. THE GIVEN ROWS OF THIS SEAT. 7 by the template 'for every input the law returns true; each argument reads behind the call as it read before'; 0 by the template 'total and deterministic' (their statements: YtgjohpbhdgmifaaTotals.lean).
  GIVEN WITH THE SEED: the statements are not yours to turn. If you find one false, say at which input.
  Laid BY PROGRAM, IN A SANDBOX (cutbox-rows.mjs): the forced cells as the released guide's own fill.sh prints them over the translation 5c0661fe35bf581e… (all of the seat's roots in one cut). By AI agents, Wed Nov 11 2026. No macro, syntax, notation, axiom, sorry.
-/
import Derived.Test.YtgjohpbhdgmifaaChecked
import GoSem.Claim
import GoSem.ClaimJoined
import GoSem.ClaimMapViews
import Derived.JoinedTies
import Derived.KernelRfl
namespace Go.Proofs.Ytgjohpbhdgmifaa
/- THE CELL 'sum', in the pinned program and in every row, IS THE sha256 OF THE DUMP (.gsa) THAT YtgjohpbhdgmifaaProg.lean LOADS. Nothing in Lean hashes anything: it is a label: what it is worth is what the hold of that sum in a sandbox is worth. -/
noncomputable def Try.pinned : Pinned := { name := "ytgjohpbhdgmifaa", sum := "5c0661fe35bf581e721bbcf66ce2d149c95dc2d0bf5aedf48a075273ce8a8623", checked := Try.checked }
namespace Rows
def none {H : Type} : Left H := { results := [], args := [] }

/-- 'transitlaw13.StopChecks': WHATEVER THE INPUT: true; the input reads as it did. -/
def stopChecksSpec : ChangeSpec := { name := "stopChecks", fn := fun _ => fun
  | [d] => { results := [.lit (.bool true)], args := [d] }
  | _ => none }
def stopChecksRow : OpenClaim := { program := "ytgjohpbhdgmifaa", sum := "5c0661fe35bf581e721bbcf66ce2d149c95dc2d0bf5aedf48a075273ce8a8623", func := "transit/transitlaw13.StopChecks", spec := "stopChecks", apart := false }
def StopChecksSaid : Prop := stopChecksRow.holds Try.pinned (OpenSpec.ofChange stopChecksSpec)

/-- ITS FALSE NEIGHBOUR: 'it returns false'. Refute it at one input. -/
def stopChecksWrong : ChangeSpec := { name := "stopChecks", fn := fun _ => fun
  | [d] => { results := [.lit (.bool false)], args := [d] }
  | _ => none }
def StopChecksWrongFalsely : Prop := stopChecksRow.holds Try.pinned (OpenSpec.ofChange stopChecksWrong)

/-- 'transitlaw13.StopFinds': WHATEVER THE INPUT: true; the input reads as it did. -/
def stopFindsSpec : ChangeSpec := { name := "stopFinds", fn := fun _ => fun
  | [d1, d2] => { results := [.lit (.bool true)], args := [d1, d2] }
  | _ => none }
def stopFindsRow : OpenClaim := { program := "ytgjohpbhdgmifaa", sum := "5c0661fe35bf581e721bbcf66ce2d149c95dc2d0bf5aedf48a075273ce8a8623", func := "transit/transitlaw13.StopFinds", spec := "stopFinds", apart := false }
def StopFindsSaid : Prop := stopFindsRow.holds Try.pinned (OpenSpec.ofChange stopFindsSpec)

/-- ITS FALSE NEIGHBOUR: 'it returns false'. Refute it at one input. -/
def stopFindsWrong : ChangeSpec := { name := "stopFinds", fn := fun _ => fun
  | [d1, d2] => { results := [.lit (.bool false)], args := [d1, d2] }
  | _ => none }
def StopFindsWrongFalsely : Prop := stopFindsRow.holds Try.pinned (OpenSpec.ofChange stopFindsWrong)

/-- 'transitlaw13.StopLists': WHATEVER THE INPUT: true; the input reads as it did. -/
def stopListsSpec : ChangeSpec := { name := "stopLists", fn := fun _ => fun
  | [d1, d2] => { results := [.lit (.bool true)], args := [d1, d2] }
  | _ => none }
def stopListsRow : OpenClaim := { program := "ytgjohpbhdgmifaa", sum := "5c0661fe35bf581e721bbcf66ce2d149c95dc2d0bf5aedf48a075273ce8a8623", func := "transit/transitlaw13.StopLists", spec := "stopLists", apart := false }
def StopListsSaid : Prop := stopListsRow.holds Try.pinned (OpenSpec.ofChange stopListsSpec)

/-- ITS FALSE NEIGHBOUR: 'it returns false'. Refute it at one input. -/
def stopListsWrong : ChangeSpec := { name := "stopLists", fn := fun _ => fun
  | [d1, d2] => { results := [.lit (.bool false)], args := [d1, d2] }
  | _ => none }
def StopListsWrongFalsely : Prop := stopListsRow.holds Try.pinned (OpenSpec.ofChange stopListsWrong)

/-- 'transitlaw13.StopAccess': WHATEVER THE INPUT: true; the input reads as it did. -/
def stopAccessSpec : ChangeSpec := { name := "stopAccess", fn := fun _ => fun
  | [d] => { results := [.lit (.bool true)], args := [d] }
  | _ => none }
def stopAccessRow : OpenClaim := { program := "ytgjohpbhdgmifaa", sum := "5c0661fe35bf581e721bbcf66ce2d149c95dc2d0bf5aedf48a075273ce8a8623", func := "transit/transitlaw13.StopAccess", spec := "stopAccess", apart := false }
def StopAccessSaid : Prop := stopAccessRow.holds Try.pinned (OpenSpec.ofChange stopAccessSpec)

/-- ITS FALSE NEIGHBOUR: 'it returns false'. Refute it at one input. -/
def stopAccessWrong : ChangeSpec := { name := "stopAccess", fn := fun _ => fun
  | [d] => { results := [.lit (.bool false)], args := [d] }
  | _ => none }
def StopAccessWrongFalsely : Prop := stopAccessRow.holds Try.pinned (OpenSpec.ofChange stopAccessWrong)

/-- 'transitlaw13.StopNames': WHATEVER THE INPUT: true; the input reads as it did. -/
def stopNamesSpec : ChangeSpec := { name := "stopNames", fn := fun _ => fun
  | [d] => { results := [.lit (.bool true)], args := [d] }
  | _ => none }
def stopNamesRow : OpenClaim := { program := "ytgjohpbhdgmifaa", sum := "5c0661fe35bf581e721bbcf66ce2d149c95dc2d0bf5aedf48a075273ce8a8623", func := "transit/transitlaw13.StopNames", spec := "stopNames", apart := false }
def StopNamesSaid : Prop := stopNamesRow.holds Try.pinned (OpenSpec.ofChange stopNamesSpec)

/-- ITS FALSE NEIGHBOUR: 'it returns false'. Refute it at one input. -/
def stopNamesWrong : ChangeSpec := { name := "stopNames", fn := fun _ => fun
  | [d] => { results := [.lit (.bool false)], args := [d] }
  | _ => none }
def StopNamesWrongFalsely : Prop := stopNamesRow.holds Try.pinned (OpenSpec.ofChange stopNamesWrong)

/-- 'transitlaw13.StopFirst': WHATEVER THE INPUT: true; the input reads as it did. -/
def stopFirstSpec : ChangeSpec := { name := "stopFirst", fn := fun _ => fun
  | [d] => { results := [.lit (.bool true)], args := [d] }
  | _ => none }
def stopFirstRow : OpenClaim := { program := "ytgjohpbhdgmifaa", sum := "5c0661fe35bf581e721bbcf66ce2d149c95dc2d0bf5aedf48a075273ce8a8623", func := "transit/transitlaw13.StopFirst", spec := "stopFirst", apart := false }
def StopFirstSaid : Prop := stopFirstRow.holds Try.pinned (OpenSpec.ofChange stopFirstSpec)

/-- ITS FALSE NEIGHBOUR: 'it returns false'. Refute it at one input. -/
def stopFirstWrong : ChangeSpec := { name := "stopFirst", fn := fun _ => fun
  | [d] => { results := [.lit (.bool false)], args := [d] }
  | _ => none }
def StopFirstWrongFalsely : Prop := stopFirstRow.holds Try.pinned (OpenSpec.ofChange stopFirstWrong)

/-- 'transitlaw13.StopZones': WHATEVER THE INPUT: true; the input reads as it did. -/
def stopZonesSpec : ChangeSpec := { name := "stopZones", fn := fun _ => fun
  | [d] => { results := [.lit (.bool true)], args := [d] }
  | _ => none }
def stopZonesRow : OpenClaim := { program := "ytgjohpbhdgmifaa", sum := "5c0661fe35bf581e721bbcf66ce2d149c95dc2d0bf5aedf48a075273ce8a8623", func := "transit/transitlaw13.StopZones", spec := "stopZones", apart := false }
def StopZonesSaid : Prop := stopZonesRow.holds Try.pinned (OpenSpec.ofChange stopZonesSpec)

/-- ITS FALSE NEIGHBOUR: 'it returns false'. Refute it at one input. -/
def stopZonesWrong : ChangeSpec := { name := "stopZones", fn := fun _ => fun
  | [d] => { results := [.lit (.bool false)], args := [d] }
  | _ => none }
def StopZonesWrongFalsely : Prop := stopZonesRow.holds Try.pinned (OpenSpec.ofChange stopZonesWrong)

/- THE SECOND FORM. 'bulk': how many values and letters a reading holds, each counted each time it is reached (what is shared counts as often as it is met; a slice's spare places count too). A statement '..UptoSaid' is the law's where the arguments, and the package variables that the reading takes, are together of bulk at most 1048576: NARROWER than '..Said'. Prove '..Said' where nothing that the law and all that it calls make is longer than what came in: it says more and counts as full. Else prove '..UptoSaid'. A law counts once. -/
mutual
def uptoBulk {H : Type} : DataW H → Nat
  | .lit (.string bytes) => bytes.length + 1
  | .lit _ => 1
  | .nil => 1
  | .ptr d => uptoBulk d + 1
  | .slice elems spare => uptoBulkAll elems + uptoBulkAll spare + 1
  | .agg parts => uptoBulkAll parts + 1
  | .iface _ d => uptoBulk d + 1
  | .map entries => uptoBulkEntries entries + 1
  | .held _ => 1
def uptoBulkAll {H : Type} : List (DataW H) → Nat
  | [] => 0
  | d :: r => uptoBulk d + uptoBulkAll r
def uptoBulkEntries {H : Type} : List (Lit × DataW H) → Nat
  | [] => 0
  | x :: r => uptoBulkEntry x + uptoBulkEntries r
def uptoBulkEntry {H : Type} : Lit × DataW H → Nat
  | (.string bytes, d) => bytes.length + uptoBulk d + 1
  | (_, d) => uptoBulk d + 1
 end
def uptoSmall : (H : Type) → List (DataW H) → Bool := fun _ ds => decide (uptoBulkAll ds ≤ 1048576)
def OpenSpec.upto (s : _root_.Go.ChangeSpec) : _root_.Go.OpenSpec := { _root_.Go.OpenSpec.ofChange s with cond := some uptoSmall }

/-- 'transitlaw13.StopChecks', WHERE WHAT IT READS IS OF BULK AT MOST 1048576: true; the input reads as it did. -/
def stopChecksUptoRow : OpenClaim := { program := "ytgjohpbhdgmifaa", sum := "5c0661fe35bf581e721bbcf66ce2d149c95dc2d0bf5aedf48a075273ce8a8623", func := "transit/transitlaw13.StopChecks", spec := "stopChecks", apart := false, narrowed := true }
def StopChecksUptoSaid : Prop := stopChecksUptoRow.holds Try.pinned (OpenSpec.upto stopChecksSpec)

/-- 'transitlaw13.StopFinds', WHERE WHAT IT READS IS OF BULK AT MOST 1048576: true; the input reads as it did. -/
def stopFindsUptoRow : OpenClaim := { program := "ytgjohpbhdgmifaa", sum := "5c0661fe35bf581e721bbcf66ce2d149c95dc2d0bf5aedf48a075273ce8a8623", func := "transit/transitlaw13.StopFinds", spec := "stopFinds", apart := false, narrowed := true }
def StopFindsUptoSaid : Prop := stopFindsUptoRow.holds Try.pinned (OpenSpec.upto stopFindsSpec)

/-- 'transitlaw13.StopLists', WHERE WHAT IT READS IS OF BULK AT MOST 1048576: true; the input reads as it did. -/
def stopListsUptoRow : OpenClaim := { program := "ytgjohpbhdgmifaa", sum := "5c0661fe35bf581e721bbcf66ce2d149c95dc2d0bf5aedf48a075273ce8a8623", func := "transit/transitlaw13.StopLists", spec := "stopLists", apart := false, narrowed := true }
def StopListsUptoSaid : Prop := stopListsUptoRow.holds Try.pinned (OpenSpec.upto stopListsSpec)

/-- 'transitlaw13.StopAccess', WHERE WHAT IT READS IS OF BULK AT MOST 1048576: true; the input reads as it did. -/
def stopAccessUptoRow : OpenClaim := { program := "ytgjohpbhdgmifaa", sum := "5c0661fe35bf581e721bbcf66ce2d149c95dc2d0bf5aedf48a075273ce8a8623", func := "transit/transitlaw13.StopAccess", spec := "stopAccess", apart := false, narrowed := true }
def StopAccessUptoSaid : Prop := stopAccessUptoRow.holds Try.pinned (OpenSpec.upto stopAccessSpec)

/-- 'transitlaw13.StopNames', WHERE WHAT IT READS IS OF BULK AT MOST 1048576: true; the input reads as it did. -/
def stopNamesUptoRow : OpenClaim := { program := "ytgjohpbhdgmifaa", sum := "5c0661fe35bf581e721bbcf66ce2d149c95dc2d0bf5aedf48a075273ce8a8623", func := "transit/transitlaw13.StopNames", spec := "stopNames", apart := false, narrowed := true }
def StopNamesUptoSaid : Prop := stopNamesUptoRow.holds Try.pinned (OpenSpec.upto stopNamesSpec)

/-- 'transitlaw13.StopFirst', WHERE WHAT IT READS IS OF BULK AT MOST 1048576: true; the input reads as it did. -/
def stopFirstUptoRow : OpenClaim := { program := "ytgjohpbhdgmifaa", sum := "5c0661fe35bf581e721bbcf66ce2d149c95dc2d0bf5aedf48a075273ce8a8623", func := "transit/transitlaw13.StopFirst", spec := "stopFirst", apart := false, narrowed := true }
def StopFirstUptoSaid : Prop := stopFirstUptoRow.holds Try.pinned (OpenSpec.upto stopFirstSpec)

/-- 'transitlaw13.StopZones', WHERE WHAT IT READS IS OF BULK AT MOST 1048576: true; the input reads as it did. -/
def stopZonesUptoRow : OpenClaim := { program := "ytgjohpbhdgmifaa", sum := "5c0661fe35bf581e721bbcf66ce2d149c95dc2d0bf5aedf48a075273ce8a8623", func := "transit/transitlaw13.StopZones", spec := "stopZones", apart := false, narrowed := true }
def StopZonesUptoSaid : Prop := stopZonesUptoRow.holds Try.pinned (OpenSpec.upto stopZonesSpec)

end Rows
end Go.Proofs.Ytgjohpbhdgmifaa
