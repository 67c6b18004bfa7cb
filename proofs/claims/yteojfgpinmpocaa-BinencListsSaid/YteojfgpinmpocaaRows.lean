/-
  No cell of these rows narrows 'for every input' (looked for: loops, veiled, ifaces, maps, wideKeys, modest, calm, conditions, laid).
  DERIVED. THE GIVEN ROWS OF THIS SEAT. 10 by the template 'for every input the law returns true; each argument reads behind the call as it read before'; 0 by the template 'total and deterministic' (their statements: YteojfgpinmpocaaTotals.lean).
  GIVEN WITH THE SEED: the statements are not yours to turn. If you find one false, say at which input.
  Laid BY PROGRAM, IN A SANDBOX (cutbox-rows.mjs): the forced cells as the released guide's own fill.sh prints them over the translation 755e2fe9afa976ae… (all of the seat's roots in one cut). By AI agents, Wed Nov 11 2026. No macro, syntax, notation, axiom, sorry.
-/
import Derived.Test.YteojfgpinmpocaaChecked
import GoSem.Claim
import GoSem.ClaimJoined
import GoSem.ClaimMapViews
import Derived.JoinedTies
import Derived.KernelRfl
namespace Go.Proofs.Yteojfgpinmpocaa
/- THE CELL 'sum', in the pinned program and in every row, IS THE sha256 OF THE DUMP (.gsa) THAT YteojfgpinmpocaaProg.lean LOADS. Nothing in Lean hashes anything: it is a label: what it is worth is what the hold of that sum in a sandbox is worth. -/
noncomputable def Try.pinned : Pinned := { name := "yteojfgpinmpocaa", sum := "755e2fe9afa976ae4836a905847e2d48573d29a60eb72a4bd76e983e9757f2fa", checked := Try.checked }
namespace Rows
def none {H : Type} : Left H := { results := [], args := [] }

/-- 'transitlaw11.BinencPuts': WHATEVER THE INPUT: true; the input reads as it did. -/
def binencPutsSpec : ChangeSpec := { name := "binencPuts", fn := fun _ => fun
  | [d1, d2, d3] => { results := [.lit (.bool true)], args := [d1, d2, d3] }
  | _ => none }
def binencPutsRow : OpenClaim := { program := "yteojfgpinmpocaa", sum := "755e2fe9afa976ae4836a905847e2d48573d29a60eb72a4bd76e983e9757f2fa", func := "transit/transitlaw11.BinencPuts", spec := "binencPuts", apart := false }
def BinencPutsSaid : Prop := binencPutsRow.holds Try.pinned (OpenSpec.ofChange binencPutsSpec)

/-- ITS FALSE NEIGHBOUR: 'it returns false'. Refute it at one input. -/
def binencPutsWrong : ChangeSpec := { name := "binencPuts", fn := fun _ => fun
  | [d1, d2, d3] => { results := [.lit (.bool false)], args := [d1, d2, d3] }
  | _ => none }
def BinencPutsWrongFalsely : Prop := binencPutsRow.holds Try.pinned (OpenSpec.ofChange binencPutsWrong)

/-- 'transitlaw11.BinencStrings': WHATEVER THE INPUT: true; the input reads as it did. -/
def binencStringsSpec : ChangeSpec := { name := "binencStrings", fn := fun _ => fun
  | [d1, d2] => { results := [.lit (.bool true)], args := [d1, d2] }
  | _ => none }
def binencStringsRow : OpenClaim := { program := "yteojfgpinmpocaa", sum := "755e2fe9afa976ae4836a905847e2d48573d29a60eb72a4bd76e983e9757f2fa", func := "transit/transitlaw11.BinencStrings", spec := "binencStrings", apart := false }
def BinencStringsSaid : Prop := binencStringsRow.holds Try.pinned (OpenSpec.ofChange binencStringsSpec)

/-- ITS FALSE NEIGHBOUR: 'it returns false'. Refute it at one input. -/
def binencStringsWrong : ChangeSpec := { name := "binencStrings", fn := fun _ => fun
  | [d1, d2] => { results := [.lit (.bool false)], args := [d1, d2] }
  | _ => none }
def BinencStringsWrongFalsely : Prop := binencStringsRow.holds Try.pinned (OpenSpec.ofChange binencStringsWrong)

/-- 'transitlaw11.BinencUints': WHATEVER THE INPUT: true; the input reads as it did. -/
def binencUintsSpec : ChangeSpec := { name := "binencUints", fn := fun _ => fun
  | [d1, d2] => { results := [.lit (.bool true)], args := [d1, d2] }
  | _ => none }
def binencUintsRow : OpenClaim := { program := "yteojfgpinmpocaa", sum := "755e2fe9afa976ae4836a905847e2d48573d29a60eb72a4bd76e983e9757f2fa", func := "transit/transitlaw11.BinencUints", spec := "binencUints", apart := false }
def BinencUintsSaid : Prop := binencUintsRow.holds Try.pinned (OpenSpec.ofChange binencUintsSpec)

/-- ITS FALSE NEIGHBOUR: 'it returns false'. Refute it at one input. -/
def binencUintsWrong : ChangeSpec := { name := "binencUints", fn := fun _ => fun
  | [d1, d2] => { results := [.lit (.bool false)], args := [d1, d2] }
  | _ => none }
def BinencUintsWrongFalsely : Prop := binencUintsRow.holds Try.pinned (OpenSpec.ofChange binencUintsWrong)

/-- 'transitlaw11.BinencInts': WHATEVER THE INPUT: true; the input reads as it did. -/
def binencIntsSpec : ChangeSpec := { name := "binencInts", fn := fun _ => fun
  | [d1, d2] => { results := [.lit (.bool true)], args := [d1, d2] }
  | _ => none }
def binencIntsRow : OpenClaim := { program := "yteojfgpinmpocaa", sum := "755e2fe9afa976ae4836a905847e2d48573d29a60eb72a4bd76e983e9757f2fa", func := "transit/transitlaw11.BinencInts", spec := "binencInts", apart := false }
def BinencIntsSaid : Prop := binencIntsRow.holds Try.pinned (OpenSpec.ofChange binencIntsSpec)

/-- ITS FALSE NEIGHBOUR: 'it returns false'. Refute it at one input. -/
def binencIntsWrong : ChangeSpec := { name := "binencInts", fn := fun _ => fun
  | [d1, d2] => { results := [.lit (.bool false)], args := [d1, d2] }
  | _ => none }
def BinencIntsWrongFalsely : Prop := binencIntsRow.holds Try.pinned (OpenSpec.ofChange binencIntsWrong)

/-- 'transitlaw11.BinencBytes': WHATEVER THE INPUT: true; the input reads as it did. -/
def binencBytesSpec : ChangeSpec := { name := "binencBytes", fn := fun _ => fun
  | [d1, d2, d3] => { results := [.lit (.bool true)], args := [d1, d2, d3] }
  | _ => none }
def binencBytesRow : OpenClaim := { program := "yteojfgpinmpocaa", sum := "755e2fe9afa976ae4836a905847e2d48573d29a60eb72a4bd76e983e9757f2fa", func := "transit/transitlaw11.BinencBytes", spec := "binencBytes", apart := false }
def BinencBytesSaid : Prop := binencBytesRow.holds Try.pinned (OpenSpec.ofChange binencBytesSpec)

/-- ITS FALSE NEIGHBOUR: 'it returns false'. Refute it at one input. -/
def binencBytesWrong : ChangeSpec := { name := "binencBytes", fn := fun _ => fun
  | [d1, d2, d3] => { results := [.lit (.bool false)], args := [d1, d2, d3] }
  | _ => none }
def BinencBytesWrongFalsely : Prop := binencBytesRow.holds Try.pinned (OpenSpec.ofChange binencBytesWrong)

/-- 'transitlaw11.BinencBools': WHATEVER THE INPUT: true; the input reads as it did. -/
def binencBoolsSpec : ChangeSpec := { name := "binencBools", fn := fun _ => fun
  | [d1, d2] => { results := [.lit (.bool true)], args := [d1, d2] }
  | _ => none }
def binencBoolsRow : OpenClaim := { program := "yteojfgpinmpocaa", sum := "755e2fe9afa976ae4836a905847e2d48573d29a60eb72a4bd76e983e9757f2fa", func := "transit/transitlaw11.BinencBools", spec := "binencBools", apart := false }
def BinencBoolsSaid : Prop := binencBoolsRow.holds Try.pinned (OpenSpec.ofChange binencBoolsSpec)

/-- ITS FALSE NEIGHBOUR: 'it returns false'. Refute it at one input. -/
def binencBoolsWrong : ChangeSpec := { name := "binencBools", fn := fun _ => fun
  | [d1, d2] => { results := [.lit (.bool false)], args := [d1, d2] }
  | _ => none }
def BinencBoolsWrongFalsely : Prop := binencBoolsRow.holds Try.pinned (OpenSpec.ofChange binencBoolsWrong)

/-- 'transitlaw11.BinencLists': WHATEVER THE INPUT: true; the input reads as it did. -/
def binencListsSpec : ChangeSpec := { name := "binencLists", fn := fun _ => fun
  | [d1, d2, d3] => { results := [.lit (.bool true)], args := [d1, d2, d3] }
  | _ => none }
def binencListsRow : OpenClaim := { program := "yteojfgpinmpocaa", sum := "755e2fe9afa976ae4836a905847e2d48573d29a60eb72a4bd76e983e9757f2fa", func := "transit/transitlaw11.BinencLists", spec := "binencLists", apart := false }
def BinencListsSaid : Prop := binencListsRow.holds Try.pinned (OpenSpec.ofChange binencListsSpec)

/-- ITS FALSE NEIGHBOUR: 'it returns false'. Refute it at one input. -/
def binencListsWrong : ChangeSpec := { name := "binencLists", fn := fun _ => fun
  | [d1, d2, d3] => { results := [.lit (.bool false)], args := [d1, d2, d3] }
  | _ => none }
def BinencListsWrongFalsely : Prop := binencListsRow.holds Try.pinned (OpenSpec.ofChange binencListsWrong)

/-- 'transitlaw11.BinencRoundTrip': WHATEVER THE INPUT: true; the input reads as it did. -/
def binencRoundTripSpec : ChangeSpec := { name := "binencRoundTrip", fn := fun _ => fun
  | [d] => { results := [.lit (.bool true)], args := [d] }
  | _ => none }
def binencRoundTripRow : OpenClaim := { program := "yteojfgpinmpocaa", sum := "755e2fe9afa976ae4836a905847e2d48573d29a60eb72a4bd76e983e9757f2fa", func := "transit/transitlaw11.BinencRoundTrip", spec := "binencRoundTrip", apart := false }
def BinencRoundTripSaid : Prop := binencRoundTripRow.holds Try.pinned (OpenSpec.ofChange binencRoundTripSpec)

/-- ITS FALSE NEIGHBOUR: 'it returns false'. Refute it at one input. -/
def binencRoundTripWrong : ChangeSpec := { name := "binencRoundTrip", fn := fun _ => fun
  | [d] => { results := [.lit (.bool false)], args := [d] }
  | _ => none }
def BinencRoundTripWrongFalsely : Prop := binencRoundTripRow.holds Try.pinned (OpenSpec.ofChange binencRoundTripWrong)

/-- 'transitlaw11.BinencUnique': WHATEVER THE INPUT: true; the input reads as it did. -/
def binencUniqueSpec : ChangeSpec := { name := "binencUnique", fn := fun _ => fun
  | [d1, d2] => { results := [.lit (.bool true)], args := [d1, d2] }
  | _ => none }
def binencUniqueRow : OpenClaim := { program := "yteojfgpinmpocaa", sum := "755e2fe9afa976ae4836a905847e2d48573d29a60eb72a4bd76e983e9757f2fa", func := "transit/transitlaw11.BinencUnique", spec := "binencUnique", apart := false }
def BinencUniqueSaid : Prop := binencUniqueRow.holds Try.pinned (OpenSpec.ofChange binencUniqueSpec)

/-- ITS FALSE NEIGHBOUR: 'it returns false'. Refute it at one input. -/
def binencUniqueWrong : ChangeSpec := { name := "binencUnique", fn := fun _ => fun
  | [d1, d2] => { results := [.lit (.bool false)], args := [d1, d2] }
  | _ => none }
def BinencUniqueWrongFalsely : Prop := binencUniqueRow.holds Try.pinned (OpenSpec.ofChange binencUniqueWrong)

/-- 'transitlaw11.BinencPrefixes': WHATEVER THE INPUT: true; the input reads as it did. -/
def binencPrefixesSpec : ChangeSpec := { name := "binencPrefixes", fn := fun _ => fun
  | [d1, d2, d3] => { results := [.lit (.bool true)], args := [d1, d2, d3] }
  | _ => none }
def binencPrefixesRow : OpenClaim := { program := "yteojfgpinmpocaa", sum := "755e2fe9afa976ae4836a905847e2d48573d29a60eb72a4bd76e983e9757f2fa", func := "transit/transitlaw11.BinencPrefixes", spec := "binencPrefixes", apart := false }
def BinencPrefixesSaid : Prop := binencPrefixesRow.holds Try.pinned (OpenSpec.ofChange binencPrefixesSpec)

/-- ITS FALSE NEIGHBOUR: 'it returns false'. Refute it at one input. -/
def binencPrefixesWrong : ChangeSpec := { name := "binencPrefixes", fn := fun _ => fun
  | [d1, d2, d3] => { results := [.lit (.bool false)], args := [d1, d2, d3] }
  | _ => none }
def BinencPrefixesWrongFalsely : Prop := binencPrefixesRow.holds Try.pinned (OpenSpec.ofChange binencPrefixesWrong)

/- THE SECOND FORM. 'bulk': how many values and letters a reading holds, each counted each time it is reached (what is shared counts as often as it is met; a slice's spare places count too). A statement '..UptoSaid' is the law's where the arguments, and the package variables that the reading takes, are together of bulk at most 1048576: NARROWER than '..Said'. Prove '..Said' where nothing that the law and all that it calls make is longer than what came in: it says more and counts as full. Else prove '..UptoSaid'. A law counts once. -/
mutual
def uptoBulk {H : Type} : DataW H → Nat
  | .lit (.string bytes) => bytes.length + 1
  | .lit _ => 1
  | .nil => 1
  | .ptr d => uptoBulk d + 1
  | .slice elems spare => uptoBulkAll elems + uptoBulkAll spare + 1
  | .agg parts => uptoBulkAll parts + 1
  | .iface _ d => uptoBulk d + 1
  | .map entries => uptoBulkEntries entries + 1
  | .held _ => 1
def uptoBulkAll {H : Type} : List (DataW H) → Nat
  | [] => 0
  | d :: r => uptoBulk d + uptoBulkAll r
def uptoBulkEntries {H : Type} : List (Lit × DataW H) → Nat
  | [] => 0
  | x :: r => uptoBulkEntry x + uptoBulkEntries r
def uptoBulkEntry {H : Type} : Lit × DataW H → Nat
  | (.string bytes, d) => bytes.length + uptoBulk d + 1
  | (_, d) => uptoBulk d + 1
 end
def uptoSmall : (H : Type) → List (DataW H) → Bool := fun _ ds => decide (uptoBulkAll ds ≤ 1048576)
def OpenSpec.upto (s : _root_.Go.ChangeSpec) : _root_.Go.OpenSpec := { _root_.Go.OpenSpec.ofChange s with cond := some uptoSmall }

/-- 'transitlaw11.BinencPuts', WHERE WHAT IT READS IS OF BULK AT MOST 1048576: true; the input reads as it did. -/
def binencPutsUptoRow : OpenClaim := { program := "yteojfgpinmpocaa", sum := "755e2fe9afa976ae4836a905847e2d48573d29a60eb72a4bd76e983e9757f2fa", func := "transit/transitlaw11.BinencPuts", spec := "binencPuts", apart := false, narrowed := true }
def BinencPutsUptoSaid : Prop := binencPutsUptoRow.holds Try.pinned (OpenSpec.upto binencPutsSpec)

/-- 'transitlaw11.BinencStrings', WHERE WHAT IT READS IS OF BULK AT MOST 1048576: true; the input reads as it did. -/
def binencStringsUptoRow : OpenClaim := { program := "yteojfgpinmpocaa", sum := "755e2fe9afa976ae4836a905847e2d48573d29a60eb72a4bd76e983e9757f2fa", func := "transit/transitlaw11.BinencStrings", spec := "binencStrings", apart := false, narrowed := true }
def BinencStringsUptoSaid : Prop := binencStringsUptoRow.holds Try.pinned (OpenSpec.upto binencStringsSpec)

/-- 'transitlaw11.BinencUints', WHERE WHAT IT READS IS OF BULK AT MOST 1048576: true; the input reads as it did. -/
def binencUintsUptoRow : OpenClaim := { program := "yteojfgpinmpocaa", sum := "755e2fe9afa976ae4836a905847e2d48573d29a60eb72a4bd76e983e9757f2fa", func := "transit/transitlaw11.BinencUints", spec := "binencUints", apart := false, narrowed := true }
def BinencUintsUptoSaid : Prop := binencUintsUptoRow.holds Try.pinned (OpenSpec.upto binencUintsSpec)

/-- 'transitlaw11.BinencInts', WHERE WHAT IT READS IS OF BULK AT MOST 1048576: true; the input reads as it did. -/
def binencIntsUptoRow : OpenClaim := { program := "yteojfgpinmpocaa", sum := "755e2fe9afa976ae4836a905847e2d48573d29a60eb72a4bd76e983e9757f2fa", func := "transit/transitlaw11.BinencInts", spec := "binencInts", apart := false, narrowed := true }
def BinencIntsUptoSaid : Prop := binencIntsUptoRow.holds Try.pinned (OpenSpec.upto binencIntsSpec)

/-- 'transitlaw11.BinencBytes', WHERE WHAT IT READS IS OF BULK AT MOST 1048576: true; the input reads as it did. -/
def binencBytesUptoRow : OpenClaim := { program := "yteojfgpinmpocaa", sum := "755e2fe9afa976ae4836a905847e2d48573d29a60eb72a4bd76e983e9757f2fa", func := "transit/transitlaw11.BinencBytes", spec := "binencBytes", apart := false, narrowed := true }
def BinencBytesUptoSaid : Prop := binencBytesUptoRow.holds Try.pinned (OpenSpec.upto binencBytesSpec)

/-- 'transitlaw11.BinencBools', WHERE WHAT IT READS IS OF BULK AT MOST 1048576: true; the input reads as it did. -/
def binencBoolsUptoRow : OpenClaim := { program := "yteojfgpinmpocaa", sum := "755e2fe9afa976ae4836a905847e2d48573d29a60eb72a4bd76e983e9757f2fa", func := "transit/transitlaw11.BinencBools", spec := "binencBools", apart := false, narrowed := true }
def BinencBoolsUptoSaid : Prop := binencBoolsUptoRow.holds Try.pinned (OpenSpec.upto binencBoolsSpec)

/-- 'transitlaw11.BinencLists', WHERE WHAT IT READS IS OF BULK AT MOST 1048576: true; the input reads as it did. -/
def binencListsUptoRow : OpenClaim := { program := "yteojfgpinmpocaa", sum := "755e2fe9afa976ae4836a905847e2d48573d29a60eb72a4bd76e983e9757f2fa", func := "transit/transitlaw11.BinencLists", spec := "binencLists", apart := false, narrowed := true }
def BinencListsUptoSaid : Prop := binencListsUptoRow.holds Try.pinned (OpenSpec.upto binencListsSpec)

/-- 'transitlaw11.BinencRoundTrip', WHERE WHAT IT READS IS OF BULK AT MOST 1048576: true; the input reads as it did. -/
def binencRoundTripUptoRow : OpenClaim := { program := "yteojfgpinmpocaa", sum := "755e2fe9afa976ae4836a905847e2d48573d29a60eb72a4bd76e983e9757f2fa", func := "transit/transitlaw11.BinencRoundTrip", spec := "binencRoundTrip", apart := false, narrowed := true }
def BinencRoundTripUptoSaid : Prop := binencRoundTripUptoRow.holds Try.pinned (OpenSpec.upto binencRoundTripSpec)

/-- 'transitlaw11.BinencUnique', WHERE WHAT IT READS IS OF BULK AT MOST 1048576: true; the input reads as it did. -/
def binencUniqueUptoRow : OpenClaim := { program := "yteojfgpinmpocaa", sum := "755e2fe9afa976ae4836a905847e2d48573d29a60eb72a4bd76e983e9757f2fa", func := "transit/transitlaw11.BinencUnique", spec := "binencUnique", apart := false, narrowed := true }
def BinencUniqueUptoSaid : Prop := binencUniqueUptoRow.holds Try.pinned (OpenSpec.upto binencUniqueSpec)

/-- 'transitlaw11.BinencPrefixes', WHERE WHAT IT READS IS OF BULK AT MOST 1048576: true; the input reads as it did. -/
def binencPrefixesUptoRow : OpenClaim := { program := "yteojfgpinmpocaa", sum := "755e2fe9afa976ae4836a905847e2d48573d29a60eb72a4bd76e983e9757f2fa", func := "transit/transitlaw11.BinencPrefixes", spec := "binencPrefixes", apart := false, narrowed := true }
def BinencPrefixesUptoSaid : Prop := binencPrefixesUptoRow.holds Try.pinned (OpenSpec.upto binencPrefixesSpec)

end Rows
end Go.Proofs.Yteojfgpinmpocaa
