/-
  No cell of these rows narrows 'for every input' (looked for: loops, veiled, ifaces, maps, wideKeys, modest, calm, conditions, laid).
  DERIVED. THE GIVEN ROWS OF THIS SEAT. 6 by the template 'for every input the law returns true; each argument reads behind the call as it read before'; 0 by the template 'total and deterministic' (their statements: YtokcpgpchiikgaaTotals.lean).
  GIVEN WITH THE SEED: the statements are not yours to turn. If you find one false, say at which input.
  Laid BY PROGRAM, IN A SANDBOX (cutbox-rows.mjs): the forced cells as the released guide's own fill.sh prints them over the translation 728683a5c04c60a9… (all of the seat's roots in one cut). By AI agents, Wed Nov 11 2026. No macro, syntax, notation, axiom, sorry.
-/
import Derived.Test.YtokcpgpchiikgaaChecked
import GoSem.Claim
import GoSem.ClaimJoined
import GoSem.ClaimMapViews
import Derived.JoinedTies
import Derived.KernelRfl
namespace Go.Proofs.Ytokcpgpchiikgaa
/- THE CELL 'sum', in the pinned program and in every row, IS THE sha256 OF THE DUMP (.gsa) THAT YtokcpgpchiikgaaProg.lean LOADS. Nothing in Lean hashes anything: it is a label: what it is worth is what the hold of that sum in a sandbox is worth. -/
noncomputable def Try.pinned : Pinned := { name := "ytokcpgpchiikgaa", sum := "728683a5c04c60a978f75e87bf0dbd492012549882003e1ae70345fd925de5b9", checked := Try.checked }
namespace Rows
def none {H : Type} : Left H := { results := [], args := [] }

/-- 'transitlaw09.ParetoCompares': WHATEVER THE INPUT: true; the input reads as it did. -/
def paretoComparesSpec : ChangeSpec := { name := "paretoCompares", fn := fun _ => fun
  | [d1, d2] => { results := [.lit (.bool true)], args := [d1, d2] }
  | _ => none }
def paretoComparesRow : OpenClaim := { program := "ytokcpgpchiikgaa", sum := "728683a5c04c60a978f75e87bf0dbd492012549882003e1ae70345fd925de5b9", func := "transit/transitlaw09.ParetoCompares", spec := "paretoCompares", unfollowed := true, recurses := true, apart := false }
def ParetoComparesSaid : Prop := paretoComparesRow.holds Try.pinned (OpenSpec.ofChange paretoComparesSpec)

/-- ITS FALSE NEIGHBOUR: 'it returns false'. Refute it at one input. -/
def paretoComparesWrong : ChangeSpec := { name := "paretoCompares", fn := fun _ => fun
  | [d1, d2] => { results := [.lit (.bool false)], args := [d1, d2] }
  | _ => none }
def ParetoComparesWrongFalsely : Prop := paretoComparesRow.holds Try.pinned (OpenSpec.ofChange paretoComparesWrong)

/-- 'transitlaw09.ParetoFronts': WHATEVER THE INPUT: true; the input reads as it did. -/
def paretoFrontsSpec : ChangeSpec := { name := "paretoFronts", fn := fun _ => fun
  | [d] => { results := [.lit (.bool true)], args := [d] }
  | _ => none }
def paretoFrontsRow : OpenClaim := { program := "ytokcpgpchiikgaa", sum := "728683a5c04c60a978f75e87bf0dbd492012549882003e1ae70345fd925de5b9", func := "transit/transitlaw09.ParetoFronts", spec := "paretoFronts", unfollowed := true, recurses := true, apart := false }
def ParetoFrontsSaid : Prop := paretoFrontsRow.holds Try.pinned (OpenSpec.ofChange paretoFrontsSpec)

/-- ITS FALSE NEIGHBOUR: 'it returns false'. Refute it at one input. -/
def paretoFrontsWrong : ChangeSpec := { name := "paretoFronts", fn := fun _ => fun
  | [d] => { results := [.lit (.bool false)], args := [d] }
  | _ => none }
def ParetoFrontsWrongFalsely : Prop := paretoFrontsRow.holds Try.pinned (OpenSpec.ofChange paretoFrontsWrong)

/-- 'transitlaw09.ParetoInserts': WHATEVER THE INPUT: true; the input reads as it did. -/
def paretoInsertsSpec : ChangeSpec := { name := "paretoInserts", fn := fun _ => fun
  | [d1, d2] => { results := [.lit (.bool true)], args := [d1, d2] }
  | _ => none }
def paretoInsertsRow : OpenClaim := { program := "ytokcpgpchiikgaa", sum := "728683a5c04c60a978f75e87bf0dbd492012549882003e1ae70345fd925de5b9", func := "transit/transitlaw09.ParetoInserts", spec := "paretoInserts", unfollowed := true, recurses := true, apart := false }
def ParetoInsertsSaid : Prop := paretoInsertsRow.holds Try.pinned (OpenSpec.ofChange paretoInsertsSpec)

/-- ITS FALSE NEIGHBOUR: 'it returns false'. Refute it at one input. -/
def paretoInsertsWrong : ChangeSpec := { name := "paretoInserts", fn := fun _ => fun
  | [d1, d2] => { results := [.lit (.bool false)], args := [d1, d2] }
  | _ => none }
def ParetoInsertsWrongFalsely : Prop := paretoInsertsRow.holds Try.pinned (OpenSpec.ofChange paretoInsertsWrong)

/-- 'transitlaw09.ParetoMerges': WHATEVER THE INPUT: true; the input reads as it did. -/
def paretoMergesSpec : ChangeSpec := { name := "paretoMerges", fn := fun _ => fun
  | [d1, d2, d3] => { results := [.lit (.bool true)], args := [d1, d2, d3] }
  | _ => none }
def paretoMergesRow : OpenClaim := { program := "ytokcpgpchiikgaa", sum := "728683a5c04c60a978f75e87bf0dbd492012549882003e1ae70345fd925de5b9", func := "transit/transitlaw09.ParetoMerges", spec := "paretoMerges", unfollowed := true, recurses := true, apart := false }
def ParetoMergesSaid : Prop := paretoMergesRow.holds Try.pinned (OpenSpec.ofChange paretoMergesSpec)

/-- ITS FALSE NEIGHBOUR: 'it returns false'. Refute it at one input. -/
def paretoMergesWrong : ChangeSpec := { name := "paretoMerges", fn := fun _ => fun
  | [d1, d2, d3] => { results := [.lit (.bool false)], args := [d1, d2, d3] }
  | _ => none }
def ParetoMergesWrongFalsely : Prop := paretoMergesRow.holds Try.pinned (OpenSpec.ofChange paretoMergesWrong)

/-- 'transitlaw09.ParetoFront': WHATEVER THE INPUT: true; the input reads as it did. -/
def paretoFrontSpec : ChangeSpec := { name := "paretoFront", fn := fun _ => fun
  | [d] => { results := [.lit (.bool true)], args := [d] }
  | _ => none }
def paretoFrontRow : OpenClaim := { program := "ytokcpgpchiikgaa", sum := "728683a5c04c60a978f75e87bf0dbd492012549882003e1ae70345fd925de5b9", func := "transit/transitlaw09.ParetoFront", spec := "paretoFront", unfollowed := true, recurses := true, apart := false }
def ParetoFrontSaid : Prop := paretoFrontRow.holds Try.pinned (OpenSpec.ofChange paretoFrontSpec)

/-- ITS FALSE NEIGHBOUR: 'it returns false'. Refute it at one input. -/
def paretoFrontWrong : ChangeSpec := { name := "paretoFront", fn := fun _ => fun
  | [d] => { results := [.lit (.bool false)], args := [d] }
  | _ => none }
def ParetoFrontWrongFalsely : Prop := paretoFrontRow.holds Try.pinned (OpenSpec.ofChange paretoFrontWrong)

/-- 'transitlaw09.ParetoBuilds': WHATEVER THE INPUT: true; the input reads as it did. -/
def paretoBuildsSpec : ChangeSpec := { name := "paretoBuilds", fn := fun _ => fun
  | [d1, d2, d3] => { results := [.lit (.bool true)], args := [d1, d2, d3] }
  | _ => none }
def paretoBuildsRow : OpenClaim := { program := "ytokcpgpchiikgaa", sum := "728683a5c04c60a978f75e87bf0dbd492012549882003e1ae70345fd925de5b9", func := "transit/transitlaw09.ParetoBuilds", spec := "paretoBuilds", unfollowed := true, recurses := true, apart := false }
def ParetoBuildsSaid : Prop := paretoBuildsRow.holds Try.pinned (OpenSpec.ofChange paretoBuildsSpec)

/-- ITS FALSE NEIGHBOUR: 'it returns false'. Refute it at one input. -/
def paretoBuildsWrong : ChangeSpec := { name := "paretoBuilds", fn := fun _ => fun
  | [d1, d2, d3] => { results := [.lit (.bool false)], args := [d1, d2, d3] }
  | _ => none }
def ParetoBuildsWrongFalsely : Prop := paretoBuildsRow.holds Try.pinned (OpenSpec.ofChange paretoBuildsWrong)

/- THE SECOND FORM. 'bulk': how many values and letters a reading holds, each counted each time it is reached (what is shared counts as often as it is met; a slice's spare places count too). A statement '..UptoSaid' is the law's where the arguments, and the package variables that the reading takes, are together of bulk at most 1048576: NARROWER than '..Said'. Prove '..Said' where nothing that the law and all that it calls make is longer than what came in: it says more and counts as full. Else prove '..UptoSaid'. A law counts once. -/
mutual
def uptoBulk {H : Type} : DataW H → Nat
  | .lit (.string bytes) => bytes.length + 1
  | .lit _ => 1
  | .nil => 1
  | .ptr d => uptoBulk d + 1
  | .slice elems spare => uptoBulkAll elems + uptoBulkAll spare + 1
  | .agg parts => uptoBulkAll parts + 1
  | .iface _ d => uptoBulk d + 1
  | .map entries => uptoBulkEntries entries + 1
  | .held _ => 1
def uptoBulkAll {H : Type} : List (DataW H) → Nat
  | [] => 0
  | d :: r => uptoBulk d + uptoBulkAll r
def uptoBulkEntries {H : Type} : List (Lit × DataW H) → Nat
  | [] => 0
  | x :: r => uptoBulkEntry x + uptoBulkEntries r
def uptoBulkEntry {H : Type} : Lit × DataW H → Nat
  | (.string bytes, d) => bytes.length + uptoBulk d + 1
  | (_, d) => uptoBulk d + 1
 end
def uptoSmall : (H : Type) → List (DataW H) → Bool := fun _ ds => decide (uptoBulkAll ds ≤ 1048576)
def OpenSpec.upto (s : _root_.Go.ChangeSpec) : _root_.Go.OpenSpec := { _root_.Go.OpenSpec.ofChange s with cond := some uptoSmall }

/-- 'transitlaw09.ParetoCompares', WHERE WHAT IT READS IS OF BULK AT MOST 1048576: true; the input reads as it did. -/
def paretoComparesUptoRow : OpenClaim := { program := "ytokcpgpchiikgaa", sum := "728683a5c04c60a978f75e87bf0dbd492012549882003e1ae70345fd925de5b9", func := "transit/transitlaw09.ParetoCompares", spec := "paretoCompares", unfollowed := true, recurses := true, apart := false, narrowed := true }
def ParetoComparesUptoSaid : Prop := paretoComparesUptoRow.holds Try.pinned (OpenSpec.upto paretoComparesSpec)

/-- 'transitlaw09.ParetoFronts', WHERE WHAT IT READS IS OF BULK AT MOST 1048576: true; the input reads as it did. -/
def paretoFrontsUptoRow : OpenClaim := { program := "ytokcpgpchiikgaa", sum := "728683a5c04c60a978f75e87bf0dbd492012549882003e1ae70345fd925de5b9", func := "transit/transitlaw09.ParetoFronts", spec := "paretoFronts", unfollowed := true, recurses := true, apart := false, narrowed := true }
def ParetoFrontsUptoSaid : Prop := paretoFrontsUptoRow.holds Try.pinned (OpenSpec.upto paretoFrontsSpec)

/-- 'transitlaw09.ParetoInserts', WHERE WHAT IT READS IS OF BULK AT MOST 1048576: true; the input reads as it did. -/
def paretoInsertsUptoRow : OpenClaim := { program := "ytokcpgpchiikgaa", sum := "728683a5c04c60a978f75e87bf0dbd492012549882003e1ae70345fd925de5b9", func := "transit/transitlaw09.ParetoInserts", spec := "paretoInserts", unfollowed := true, recurses := true, apart := false, narrowed := true }
def ParetoInsertsUptoSaid : Prop := paretoInsertsUptoRow.holds Try.pinned (OpenSpec.upto paretoInsertsSpec)

/-- 'transitlaw09.ParetoMerges', WHERE WHAT IT READS IS OF BULK AT MOST 1048576: true; the input reads as it did. -/
def paretoMergesUptoRow : OpenClaim := { program := "ytokcpgpchiikgaa", sum := "728683a5c04c60a978f75e87bf0dbd492012549882003e1ae70345fd925de5b9", func := "transit/transitlaw09.ParetoMerges", spec := "paretoMerges", unfollowed := true, recurses := true, apart := false, narrowed := true }
def ParetoMergesUptoSaid : Prop := paretoMergesUptoRow.holds Try.pinned (OpenSpec.upto paretoMergesSpec)

/-- 'transitlaw09.ParetoFront', WHERE WHAT IT READS IS OF BULK AT MOST 1048576: true; the input reads as it did. -/
def paretoFrontUptoRow : OpenClaim := { program := "ytokcpgpchiikgaa", sum := "728683a5c04c60a978f75e87bf0dbd492012549882003e1ae70345fd925de5b9", func := "transit/transitlaw09.ParetoFront", spec := "paretoFront", unfollowed := true, recurses := true, apart := false, narrowed := true }
def ParetoFrontUptoSaid : Prop := paretoFrontUptoRow.holds Try.pinned (OpenSpec.upto paretoFrontSpec)

/-- 'transitlaw09.ParetoBuilds', WHERE WHAT IT READS IS OF BULK AT MOST 1048576: true; the input reads as it did. -/
def paretoBuildsUptoRow : OpenClaim := { program := "ytokcpgpchiikgaa", sum := "728683a5c04c60a978f75e87bf0dbd492012549882003e1ae70345fd925de5b9", func := "transit/transitlaw09.ParetoBuilds", spec := "paretoBuilds", unfollowed := true, recurses := true, apart := false, narrowed := true }
def ParetoBuildsUptoSaid : Prop := paretoBuildsUptoRow.holds Try.pinned (OpenSpec.upto paretoBuildsSpec)

end Rows
end Go.Proofs.Ytokcpgpchiikgaa
