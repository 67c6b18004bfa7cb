/-
  No cell of these rows narrows 'for every input' (looked for: loops, veiled, ifaces, maps, wideKeys, modest, calm, conditions, laid).
  DERIVED. THE GIVEN ROWS OF THIS SEAT. 8 by the template 'for every input the law returns true; each argument reads behind the call as it read before'; 0 by the template 'total and deterministic' (their statements: YtibakhobgfiklaaTotals.lean).
  GIVEN WITH THE SEED: the statements are not yours to turn. If you find one false, say at which input.
  Laid BY PROGRAM, IN A SANDBOX (cutbox-rows.mjs): the forced cells as the released guide's own fill.sh prints them over the translation 3fb312dfb32a71c8… (all of the seat's roots in one cut). By AI agents, Wed Nov 11 2026. No macro, syntax, notation, axiom, sorry.
-/
import Derived.Test.YtibakhobgfiklaaChecked
import GoSem.Claim
import GoSem.ClaimJoined
import GoSem.ClaimMapViews
import Derived.JoinedTies
import Derived.KernelRfl
namespace Go.Proofs.Ytibakhobgfiklaa
/- THE CELL 'sum', in the pinned program and in every row, IS THE sha256 OF THE DUMP (.gsa) THAT YtibakhobgfiklaaProg.lean LOADS. Nothing in Lean hashes anything: it is a label: what it is worth is what the hold of that sum in a sandbox is worth. -/
noncomputable def Try.pinned : Pinned := { name := "ytibakhobgfiklaa", sum := "3fb312dfb32a71c8e1608a7698f0c169484d3861f87f3b17ce4a0a0d2c27dbf4", checked := Try.checked }
namespace Rows
def none {H : Type} : Left H := { results := [], args := [] }

/-- 'transitlaw20.FootpathChecks': WHATEVER THE INPUT: true; the input reads as it did. -/
def footpathChecksSpec : ChangeSpec := { name := "footpathChecks", fn := fun _ => fun
  | [d1, d2] => { results := [.lit (.bool true)], args := [d1, d2] }
  | _ => none }
def footpathChecksRow : OpenClaim := { program := "ytibakhobgfiklaa", sum := "3fb312dfb32a71c8e1608a7698f0c169484d3861f87f3b17ce4a0a0d2c27dbf4", func := "transit/transitlaw20.FootpathChecks", spec := "footpathChecks", unfollowed := true, recurses := true, plainKeys := false, apart := false }
def FootpathChecksSaid : Prop := footpathChecksRow.holds Try.pinned (OpenSpec.ofChange footpathChecksSpec)

/-- ITS FALSE NEIGHBOUR: 'it returns false'. Refute it at one input. -/
def footpathChecksWrong : ChangeSpec := { name := "footpathChecks", fn := fun _ => fun
  | [d1, d2] => { results := [.lit (.bool false)], args := [d1, d2] }
  | _ => none }
def FootpathChecksWrongFalsely : Prop := footpathChecksRow.holds Try.pinned (OpenSpec.ofChange footpathChecksWrong)

/-- 'transitlaw20.FootpathCloses': WHATEVER THE INPUT: true; the input reads as it did. -/
def footpathClosesSpec : ChangeSpec := { name := "footpathCloses", fn := fun _ => fun
  | [d1, d2] => { results := [.lit (.bool true)], args := [d1, d2] }
  | _ => none }
def footpathClosesRow : OpenClaim := { program := "ytibakhobgfiklaa", sum := "3fb312dfb32a71c8e1608a7698f0c169484d3861f87f3b17ce4a0a0d2c27dbf4", func := "transit/transitlaw20.FootpathCloses", spec := "footpathCloses", unfollowed := true, recurses := true, plainKeys := false, apart := false }
def FootpathClosesSaid : Prop := footpathClosesRow.holds Try.pinned (OpenSpec.ofChange footpathClosesSpec)

/-- ITS FALSE NEIGHBOUR: 'it returns false'. Refute it at one input. -/
def footpathClosesWrong : ChangeSpec := { name := "footpathCloses", fn := fun _ => fun
  | [d1, d2] => { results := [.lit (.bool false)], args := [d1, d2] }
  | _ => none }
def FootpathClosesWrongFalsely : Prop := footpathClosesRow.holds Try.pinned (OpenSpec.ofChange footpathClosesWrong)

/-- 'transitlaw20.FootpathTimes': WHATEVER THE INPUT: true; the input reads as it did. -/
def footpathTimesSpec : ChangeSpec := { name := "footpathTimes", fn := fun _ => fun
  | [d1, d2, d3] => { results := [.lit (.bool true)], args := [d1, d2, d3] }
  | _ => none }
def footpathTimesRow : OpenClaim := { program := "ytibakhobgfiklaa", sum := "3fb312dfb32a71c8e1608a7698f0c169484d3861f87f3b17ce4a0a0d2c27dbf4", func := "transit/transitlaw20.FootpathTimes", spec := "footpathTimes", unfollowed := true, recurses := true, plainKeys := false, apart := false }
def FootpathTimesSaid : Prop := footpathTimesRow.holds Try.pinned (OpenSpec.ofChange footpathTimesSpec)

/-- ITS FALSE NEIGHBOUR: 'it returns false'. Refute it at one input. -/
def footpathTimesWrong : ChangeSpec := { name := "footpathTimes", fn := fun _ => fun
  | [d1, d2, d3] => { results := [.lit (.bool false)], args := [d1, d2, d3] }
  | _ => none }
def FootpathTimesWrongFalsely : Prop := footpathTimesRow.holds Try.pinned (OpenSpec.ofChange footpathTimesWrong)

/-- 'transitlaw20.FootpathArounds': WHATEVER THE INPUT: true; the input reads as it did. -/
def footpathAroundsSpec : ChangeSpec := { name := "footpathArounds", fn := fun _ => fun
  | [d1, d2, d3] => { results := [.lit (.bool true)], args := [d1, d2, d3] }
  | _ => none }
def footpathAroundsRow : OpenClaim := { program := "ytibakhobgfiklaa", sum := "3fb312dfb32a71c8e1608a7698f0c169484d3861f87f3b17ce4a0a0d2c27dbf4", func := "transit/transitlaw20.FootpathArounds", spec := "footpathArounds", unfollowed := true, recurses := true, plainKeys := false, apart := false }
def FootpathAroundsSaid : Prop := footpathAroundsRow.holds Try.pinned (OpenSpec.ofChange footpathAroundsSpec)

/-- ITS FALSE NEIGHBOUR: 'it returns false'. Refute it at one input. -/
def footpathAroundsWrong : ChangeSpec := { name := "footpathArounds", fn := fun _ => fun
  | [d1, d2, d3] => { results := [.lit (.bool false)], args := [d1, d2, d3] }
  | _ => none }
def FootpathAroundsWrongFalsely : Prop := footpathAroundsRow.holds Try.pinned (OpenSpec.ofChange footpathAroundsWrong)

/-- 'transitlaw20.FootpathIsClosed': WHATEVER THE INPUT: true; the input reads as it did. -/
def footpathIsClosedSpec : ChangeSpec := { name := "footpathIsClosed", fn := fun _ => fun
  | [d1, d2] => { results := [.lit (.bool true)], args := [d1, d2] }
  | _ => none }
def footpathIsClosedRow : OpenClaim := { program := "ytibakhobgfiklaa", sum := "3fb312dfb32a71c8e1608a7698f0c169484d3861f87f3b17ce4a0a0d2c27dbf4", func := "transit/transitlaw20.FootpathIsClosed", spec := "footpathIsClosed", unfollowed := true, recurses := true, plainKeys := false, apart := false }
def FootpathIsClosedSaid : Prop := footpathIsClosedRow.holds Try.pinned (OpenSpec.ofChange footpathIsClosedSpec)

/-- ITS FALSE NEIGHBOUR: 'it returns false'. Refute it at one input. -/
def footpathIsClosedWrong : ChangeSpec := { name := "footpathIsClosed", fn := fun _ => fun
  | [d1, d2] => { results := [.lit (.bool false)], args := [d1, d2] }
  | _ => none }
def FootpathIsClosedWrongFalsely : Prop := footpathIsClosedRow.holds Try.pinned (OpenSpec.ofChange footpathIsClosedWrong)

/-- 'transitlaw20.FootpathClosure': WHATEVER THE INPUT: true; the input reads as it did. -/
def footpathClosureSpec : ChangeSpec := { name := "footpathClosure", fn := fun _ => fun
  | [d1, d2] => { results := [.lit (.bool true)], args := [d1, d2] }
  | _ => none }
def footpathClosureRow : OpenClaim := { program := "ytibakhobgfiklaa", sum := "3fb312dfb32a71c8e1608a7698f0c169484d3861f87f3b17ce4a0a0d2c27dbf4", func := "transit/transitlaw20.FootpathClosure", spec := "footpathClosure", unfollowed := true, recurses := true, plainKeys := false, apart := false }
def FootpathClosureSaid : Prop := footpathClosureRow.holds Try.pinned (OpenSpec.ofChange footpathClosureSpec)

/-- ITS FALSE NEIGHBOUR: 'it returns false'. Refute it at one input. -/
def footpathClosureWrong : ChangeSpec := { name := "footpathClosure", fn := fun _ => fun
  | [d1, d2] => { results := [.lit (.bool false)], args := [d1, d2] }
  | _ => none }
def FootpathClosureWrongFalsely : Prop := footpathClosureRow.holds Try.pinned (OpenSpec.ofChange footpathClosureWrong)

/-- 'transitlaw20.FootpathTriangle': WHATEVER THE INPUT: true; the input reads as it did. -/
def footpathTriangleSpec : ChangeSpec := { name := "footpathTriangle", fn := fun _ => fun
  | [d1, d2, d3] => { results := [.lit (.bool true)], args := [d1, d2, d3] }
  | _ => none }
def footpathTriangleRow : OpenClaim := { program := "ytibakhobgfiklaa", sum := "3fb312dfb32a71c8e1608a7698f0c169484d3861f87f3b17ce4a0a0d2c27dbf4", func := "transit/transitlaw20.FootpathTriangle", spec := "footpathTriangle", unfollowed := true, recurses := true, plainKeys := false, apart := false }
def FootpathTriangleSaid : Prop := footpathTriangleRow.holds Try.pinned (OpenSpec.ofChange footpathTriangleSpec)

/-- ITS FALSE NEIGHBOUR: 'it returns false'. Refute it at one input. -/
def footpathTriangleWrong : ChangeSpec := { name := "footpathTriangle", fn := fun _ => fun
  | [d1, d2, d3] => { results := [.lit (.bool false)], args := [d1, d2, d3] }
  | _ => none }
def FootpathTriangleWrongFalsely : Prop := footpathTriangleRow.holds Try.pinned (OpenSpec.ofChange footpathTriangleWrong)

/-- 'transitlaw20.FootpathFree': WHATEVER THE INPUT: true; the input reads as it did. -/
def footpathFreeSpec : ChangeSpec := { name := "footpathFree", fn := fun _ => fun
  | [d1, d2, d3] => { results := [.lit (.bool true)], args := [d1, d2, d3] }
  | _ => none }
def footpathFreeRow : OpenClaim := { program := "ytibakhobgfiklaa", sum := "3fb312dfb32a71c8e1608a7698f0c169484d3861f87f3b17ce4a0a0d2c27dbf4", func := "transit/transitlaw20.FootpathFree", spec := "footpathFree", unfollowed := true, recurses := true, plainKeys := false, apart := false }
def FootpathFreeSaid : Prop := footpathFreeRow.holds Try.pinned (OpenSpec.ofChange footpathFreeSpec)

/-- ITS FALSE NEIGHBOUR: 'it returns false'. Refute it at one input. -/
def footpathFreeWrong : ChangeSpec := { name := "footpathFree", fn := fun _ => fun
  | [d1, d2, d3] => { results := [.lit (.bool false)], args := [d1, d2, d3] }
  | _ => none }
def FootpathFreeWrongFalsely : Prop := footpathFreeRow.holds Try.pinned (OpenSpec.ofChange footpathFreeWrong)

/- THE SECOND FORM. 'bulk': how many values and letters a reading holds, each counted each time it is reached (what is shared counts as often as it is met; a slice's spare places count too). A statement '..UptoSaid' is the law's where the arguments, and the package variables that the reading takes, are together of bulk at most 1048576: NARROWER than '..Said'. Prove '..Said' where nothing that the law and all that it calls make is longer than what came in: it says more and counts as full. Else prove '..UptoSaid'. A law counts once. -/
mutual
def uptoBulk {H : Type} : DataW H → Nat
  | .lit (.string bytes) => bytes.length + 1
  | .lit _ => 1
  | .nil => 1
  | .ptr d => uptoBulk d + 1
  | .slice elems spare => uptoBulkAll elems + uptoBulkAll spare + 1
  | .agg parts => uptoBulkAll parts + 1
  | .iface _ d => uptoBulk d + 1
  | .map entries => uptoBulkEntries entries + 1
  | .held _ => 1
def uptoBulkAll {H : Type} : List (DataW H) → Nat
  | [] => 0
  | d :: r => uptoBulk d + uptoBulkAll r
def uptoBulkEntries {H : Type} : List (Lit × DataW H) → Nat
  | [] => 0
  | x :: r => uptoBulkEntry x + uptoBulkEntries r
def uptoBulkEntry {H : Type} : Lit × DataW H → Nat
  | (.string bytes, d) => bytes.length + uptoBulk d + 1
  | (_, d) => uptoBulk d + 1
 end
def uptoSmall : (H : Type) → List (DataW H) → Bool := fun _ ds => decide (uptoBulkAll ds ≤ 1048576)
def OpenSpec.upto (s : _root_.Go.ChangeSpec) : _root_.Go.OpenSpec := { _root_.Go.OpenSpec.ofChange s with cond := some uptoSmall }

/-- 'transitlaw20.FootpathChecks', WHERE WHAT IT READS IS OF BULK AT MOST 1048576: true; the input reads as it did. -/
def footpathChecksUptoRow : OpenClaim := { program := "ytibakhobgfiklaa", sum := "3fb312dfb32a71c8e1608a7698f0c169484d3861f87f3b17ce4a0a0d2c27dbf4", func := "transit/transitlaw20.FootpathChecks", spec := "footpathChecks", unfollowed := true, recurses := true, plainKeys := false, apart := false, narrowed := true }
def FootpathChecksUptoSaid : Prop := footpathChecksUptoRow.holds Try.pinned (OpenSpec.upto footpathChecksSpec)

/-- 'transitlaw20.FootpathCloses', WHERE WHAT IT READS IS OF BULK AT MOST 1048576: true; the input reads as it did. -/
def footpathClosesUptoRow : OpenClaim := { program := "ytibakhobgfiklaa", sum := "3fb312dfb32a71c8e1608a7698f0c169484d3861f87f3b17ce4a0a0d2c27dbf4", func := "transit/transitlaw20.FootpathCloses", spec := "footpathCloses", unfollowed := true, recurses := true, plainKeys := false, apart := false, narrowed := true }
def FootpathClosesUptoSaid : Prop := footpathClosesUptoRow.holds Try.pinned (OpenSpec.upto footpathClosesSpec)

/-- 'transitlaw20.FootpathTimes', WHERE WHAT IT READS IS OF BULK AT MOST 1048576: true; the input reads as it did. -/
def footpathTimesUptoRow : OpenClaim := { program := "ytibakhobgfiklaa", sum := "3fb312dfb32a71c8e1608a7698f0c169484d3861f87f3b17ce4a0a0d2c27dbf4", func := "transit/transitlaw20.FootpathTimes", spec := "footpathTimes", unfollowed := true, recurses := true, plainKeys := false, apart := false, narrowed := true }
def FootpathTimesUptoSaid : Prop := footpathTimesUptoRow.holds Try.pinned (OpenSpec.upto footpathTimesSpec)

/-- 'transitlaw20.FootpathArounds', WHERE WHAT IT READS IS OF BULK AT MOST 1048576: true; the input reads as it did. -/
def footpathAroundsUptoRow : OpenClaim := { program := "ytibakhobgfiklaa", sum := "3fb312dfb32a71c8e1608a7698f0c169484d3861f87f3b17ce4a0a0d2c27dbf4", func := "transit/transitlaw20.FootpathArounds", spec := "footpathArounds", unfollowed := true, recurses := true, plainKeys := false, apart := false, narrowed := true }
def FootpathAroundsUptoSaid : Prop := footpathAroundsUptoRow.holds Try.pinned (OpenSpec.upto footpathAroundsSpec)

/-- 'transitlaw20.FootpathIsClosed', WHERE WHAT IT READS IS OF BULK AT MOST 1048576: true; the input reads as it did. -/
def footpathIsClosedUptoRow : OpenClaim := { program := "ytibakhobgfiklaa", sum := "3fb312dfb32a71c8e1608a7698f0c169484d3861f87f3b17ce4a0a0d2c27dbf4", func := "transit/transitlaw20.FootpathIsClosed", spec := "footpathIsClosed", unfollowed := true, recurses := true, plainKeys := false, apart := false, narrowed := true }
def FootpathIsClosedUptoSaid : Prop := footpathIsClosedUptoRow.holds Try.pinned (OpenSpec.upto footpathIsClosedSpec)

/-- 'transitlaw20.FootpathClosure', WHERE WHAT IT READS IS OF BULK AT MOST 1048576: true; the input reads as it did. -/
def footpathClosureUptoRow : OpenClaim := { program := "ytibakhobgfiklaa", sum := "3fb312dfb32a71c8e1608a7698f0c169484d3861f87f3b17ce4a0a0d2c27dbf4", func := "transit/transitlaw20.FootpathClosure", spec := "footpathClosure", unfollowed := true, recurses := true, plainKeys := false, apart := false, narrowed := true }
def FootpathClosureUptoSaid : Prop := footpathClosureUptoRow.holds Try.pinned (OpenSpec.upto footpathClosureSpec)

/-- 'transitlaw20.FootpathTriangle', WHERE WHAT IT READS IS OF BULK AT MOST 1048576: true; the input reads as it did. -/
def footpathTriangleUptoRow : OpenClaim := { program := "ytibakhobgfiklaa", sum := "3fb312dfb32a71c8e1608a7698f0c169484d3861f87f3b17ce4a0a0d2c27dbf4", func := "transit/transitlaw20.FootpathTriangle", spec := "footpathTriangle", unfollowed := true, recurses := true, plainKeys := false, apart := false, narrowed := true }
def FootpathTriangleUptoSaid : Prop := footpathTriangleUptoRow.holds Try.pinned (OpenSpec.upto footpathTriangleSpec)

/-- 'transitlaw20.FootpathFree', WHERE WHAT IT READS IS OF BULK AT MOST 1048576: true; the input reads as it did. -/
def footpathFreeUptoRow : OpenClaim := { program := "ytibakhobgfiklaa", sum := "3fb312dfb32a71c8e1608a7698f0c169484d3861f87f3b17ce4a0a0d2c27dbf4", func := "transit/transitlaw20.FootpathFree", spec := "footpathFree", unfollowed := true, recurses := true, plainKeys := false, apart := false, narrowed := true }
def FootpathFreeUptoSaid : Prop := footpathFreeUptoRow.holds Try.pinned (OpenSpec.upto footpathFreeSpec)

end Rows
end Go.Proofs.Ytibakhobgfiklaa
