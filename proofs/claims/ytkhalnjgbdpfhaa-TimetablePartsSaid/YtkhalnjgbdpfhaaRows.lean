/-
  No cell of these rows narrows 'for every input' (looked for: loops, veiled, ifaces, maps, wideKeys, modest, calm, conditions, laid).
  DERIVED. THE GIVEN ROWS OF THIS SEAT. 3 by the template 'for every input the law returns true; each argument reads behind the call as it read before'; 0 by the template 'total and deterministic' (their statements: YtkhalnjgbdpfhaaTotals.lean).
  GIVEN WITH THE SEED: the statements are not yours to turn. If you find one false, say at which input.
  Laid BY PROGRAM, IN A SANDBOX (cutbox-rows.mjs): the forced cells as the released guide's own fill.sh prints them over the translation 0315aa46df05e0fd… (all of the seat's roots in one cut). By AI agents, Wed Nov 11 2026. No macro, syntax, notation, axiom, sorry.
-/
import Derived.Test.YtkhalnjgbdpfhaaChecked
import GoSem.Claim
import GoSem.ClaimJoined
import GoSem.ClaimMapViews
import Derived.JoinedTies
import Derived.KernelRfl
namespace Go.Proofs.Ytkhalnjgbdpfhaa
/- THE CELL 'sum', in the pinned program and in every row, IS THE sha256 OF THE DUMP (.gsa) THAT YtkhalnjgbdpfhaaProg.lean LOADS. Nothing in Lean hashes anything: it is a label: what it is worth is what the hold of that sum in a sandbox is worth. -/
noncomputable def Try.pinned : Pinned := { name := "ytkhalnjgbdpfhaa", sum := "0315aa46df05e0fd71a2f3ac6a51cfabfdf2c2cfe59d3d6fc5c0bef2beaf6015", checked := Try.checked }
namespace Rows
def none {H : Type} : Left H := { results := [], args := [] }

/-- 'transitlaw22.TimetableSizes': WHATEVER THE INPUT: true; the input reads as it did. -/
def timetableSizesSpec : ChangeSpec := { name := "timetableSizes", fn := fun _ => fun
  | [d] => { results := [.lit (.bool true)], args := [d] }
  | _ => none }
def timetableSizesRow : OpenClaim := { program := "ytkhalnjgbdpfhaa", sum := "0315aa46df05e0fd71a2f3ac6a51cfabfdf2c2cfe59d3d6fc5c0bef2beaf6015", func := "transit/transitlaw22.TimetableSizes", spec := "timetableSizes", unfollowed := true, recurses := true, plainKeys := false, apart := false }
def TimetableSizesSaid : Prop := timetableSizesRow.holds Try.pinned (OpenSpec.ofChange timetableSizesSpec)

/-- ITS FALSE NEIGHBOUR: 'it returns false'. Refute it at one input. -/
def timetableSizesWrong : ChangeSpec := { name := "timetableSizes", fn := fun _ => fun
  | [d] => { results := [.lit (.bool false)], args := [d] }
  | _ => none }
def TimetableSizesWrongFalsely : Prop := timetableSizesRow.holds Try.pinned (OpenSpec.ofChange timetableSizesWrong)

/-- 'transitlaw22.TimetableParts': WHATEVER THE INPUT: true; the input reads as it did. -/
def timetablePartsSpec : ChangeSpec := { name := "timetableParts", fn := fun _ => fun
  | [d] => { results := [.lit (.bool true)], args := [d] }
  | _ => none }
def timetablePartsRow : OpenClaim := { program := "ytkhalnjgbdpfhaa", sum := "0315aa46df05e0fd71a2f3ac6a51cfabfdf2c2cfe59d3d6fc5c0bef2beaf6015", func := "transit/transitlaw22.TimetableParts", spec := "timetableParts", unfollowed := true, recurses := true, plainKeys := false, apart := false }
def TimetablePartsSaid : Prop := timetablePartsRow.holds Try.pinned (OpenSpec.ofChange timetablePartsSpec)

/-- ITS FALSE NEIGHBOUR: 'it returns false'. Refute it at one input. -/
def timetablePartsWrong : ChangeSpec := { name := "timetableParts", fn := fun _ => fun
  | [d] => { results := [.lit (.bool false)], args := [d] }
  | _ => none }
def TimetablePartsWrongFalsely : Prop := timetablePartsRow.holds Try.pinned (OpenSpec.ofChange timetablePartsWrong)

/-- 'transitlaw22.TimetableShrinks': WHATEVER THE INPUT: true; the input reads as it did. -/
def timetableShrinksSpec : ChangeSpec := { name := "timetableShrinks", fn := fun _ => fun
  | [d1, d2] => { results := [.lit (.bool true)], args := [d1, d2] }
  | _ => none }
def timetableShrinksRow : OpenClaim := { program := "ytkhalnjgbdpfhaa", sum := "0315aa46df05e0fd71a2f3ac6a51cfabfdf2c2cfe59d3d6fc5c0bef2beaf6015", func := "transit/transitlaw22.TimetableShrinks", spec := "timetableShrinks", unfollowed := true, recurses := true, plainKeys := false, apart := false }
def TimetableShrinksSaid : Prop := timetableShrinksRow.holds Try.pinned (OpenSpec.ofChange timetableShrinksSpec)

/-- ITS FALSE NEIGHBOUR: 'it returns false'. Refute it at one input. -/
def timetableShrinksWrong : ChangeSpec := { name := "timetableShrinks", fn := fun _ => fun
  | [d1, d2] => { results := [.lit (.bool false)], args := [d1, d2] }
  | _ => none }
def TimetableShrinksWrongFalsely : Prop := timetableShrinksRow.holds Try.pinned (OpenSpec.ofChange timetableShrinksWrong)

/- THE SECOND FORM. 'bulk': how many values and letters a reading holds, each counted each time it is reached (what is shared counts as often as it is met; a slice's spare places count too). A statement '..UptoSaid' is the law's where the arguments, and the package variables that the reading takes, are together of bulk at most 1048576: NARROWER than '..Said'. Prove '..Said' where nothing that the law and all that it calls make is longer than what came in: it says more and counts as full. Else prove '..UptoSaid'. A law counts once. -/
mutual
def uptoBulk {H : Type} : DataW H → Nat
  | .lit (.string bytes) => bytes.length + 1
  | .lit _ => 1
  | .nil => 1
  | .ptr d => uptoBulk d + 1
  | .slice elems spare => uptoBulkAll elems + uptoBulkAll spare + 1
  | .agg parts => uptoBulkAll parts + 1
  | .iface _ d => uptoBulk d + 1
  | .map entries => uptoBulkEntries entries + 1
  | .held _ => 1
def uptoBulkAll {H : Type} : List (DataW H) → Nat
  | [] => 0
  | d :: r => uptoBulk d + uptoBulkAll r
def uptoBulkEntries {H : Type} : List (Lit × DataW H) → Nat
  | [] => 0
  | x :: r => uptoBulkEntry x + uptoBulkEntries r
def uptoBulkEntry {H : Type} : Lit × DataW H → Nat
  | (.string bytes, d) => bytes.length + uptoBulk d + 1
  | (_, d) => uptoBulk d + 1
 end
def uptoSmall : (H : Type) → List (DataW H) → Bool := fun _ ds => decide (uptoBulkAll ds ≤ 1048576)
def OpenSpec.upto (s : _root_.Go.ChangeSpec) : _root_.Go.OpenSpec := { _root_.Go.OpenSpec.ofChange s with cond := some uptoSmall }

/-- 'transitlaw22.TimetableSizes', WHERE WHAT IT READS IS OF BULK AT MOST 1048576: true; the input reads as it did. -/
def timetableSizesUptoRow : OpenClaim := { program := "ytkhalnjgbdpfhaa", sum := "0315aa46df05e0fd71a2f3ac6a51cfabfdf2c2cfe59d3d6fc5c0bef2beaf6015", func := "transit/transitlaw22.TimetableSizes", spec := "timetableSizes", unfollowed := true, recurses := true, plainKeys := false, apart := false, narrowed := true }
def TimetableSizesUptoSaid : Prop := timetableSizesUptoRow.holds Try.pinned (OpenSpec.upto timetableSizesSpec)

/-- 'transitlaw22.TimetableParts', WHERE WHAT IT READS IS OF BULK AT MOST 1048576: true; the input reads as it did. -/
def timetablePartsUptoRow : OpenClaim := { program := "ytkhalnjgbdpfhaa", sum := "0315aa46df05e0fd71a2f3ac6a51cfabfdf2c2cfe59d3d6fc5c0bef2beaf6015", func := "transit/transitlaw22.TimetableParts", spec := "timetableParts", unfollowed := true, recurses := true, plainKeys := false, apart := false, narrowed := true }
def TimetablePartsUptoSaid : Prop := timetablePartsUptoRow.holds Try.pinned (OpenSpec.upto timetablePartsSpec)

/-- 'transitlaw22.TimetableShrinks', WHERE WHAT IT READS IS OF BULK AT MOST 1048576: true; the input reads as it did. -/
def timetableShrinksUptoRow : OpenClaim := { program := "ytkhalnjgbdpfhaa", sum := "0315aa46df05e0fd71a2f3ac6a51cfabfdf2c2cfe59d3d6fc5c0bef2beaf6015", func := "transit/transitlaw22.TimetableShrinks", spec := "timetableShrinks", unfollowed := true, recurses := true, plainKeys := false, apart := false, narrowed := true }
def TimetableShrinksUptoSaid : Prop := timetableShrinksUptoRow.holds Try.pinned (OpenSpec.upto timetableShrinksSpec)

end Rows
end Go.Proofs.Ytkhalnjgbdpfhaa
