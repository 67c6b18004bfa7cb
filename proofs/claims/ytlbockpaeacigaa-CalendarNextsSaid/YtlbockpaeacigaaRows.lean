/-
  No cell of these rows narrows 'for every input' (looked for: loops, veiled, ifaces, maps, wideKeys, modest, calm, conditions, laid).
  DERIVED. THE GIVEN ROWS OF THIS SEAT. 8 by the template 'for every input the law returns true; each argument reads behind the call as it read before'; 0 by the template 'total and deterministic' (their statements: YtlbockpaeacigaaTotals.lean).
  GIVEN WITH THE SEED: the statements are not yours to turn. If you find one false, say at which input.
  Laid BY PROGRAM, IN A SANDBOX (cutbox-rows.mjs): the forced cells as the released guide's own fill.sh prints them over the translation 50eee68d3897147a… (all of the seat's roots in one cut). By AI agents, Wed Nov 11 2026. No macro, syntax, notation, axiom, sorry.
-/
import Derived.Test.YtlbockpaeacigaaChecked
import GoSem.Claim
import GoSem.ClaimJoined
import GoSem.ClaimMapViews
import Derived.JoinedTies
import Derived.KernelRfl
namespace Go.Proofs.Ytlbockpaeacigaa
/- THE CELL 'sum', in the pinned program and in every row, IS THE sha256 OF THE DUMP (.gsa) THAT YtlbockpaeacigaaProg.lean LOADS. Nothing in Lean hashes anything: it is a label: what it is worth is what the hold of that sum in a sandbox is worth. -/
noncomputable def Try.pinned : Pinned := { name := "ytlbockpaeacigaa", sum := "50eee68d3897147a5e01e9006ebe862b749648599928d51cd6983fa407c39433", checked := Try.checked }
namespace Rows
def none {H : Type} : Left H := { results := [], args := [] }

/-- 'transitlaw14.CalendarChecks': WHATEVER THE INPUT: true; the input reads as it did. -/
def calendarChecksSpec : ChangeSpec := { name := "calendarChecks", fn := fun _ => fun
  | [d] => { results := [.lit (.bool true)], args := [d] }
  | _ => none }
def calendarChecksRow : OpenClaim := { program := "ytlbockpaeacigaa", sum := "50eee68d3897147a5e01e9006ebe862b749648599928d51cd6983fa407c39433", func := "transit/transitlaw14.CalendarChecks", spec := "calendarChecks", plainKeys := false, apart := false }
def CalendarChecksSaid : Prop := calendarChecksRow.holds Try.pinned (OpenSpec.ofChange calendarChecksSpec)

/-- ITS FALSE NEIGHBOUR: 'it returns false'. Refute it at one input. -/
def calendarChecksWrong : ChangeSpec := { name := "calendarChecks", fn := fun _ => fun
  | [d] => { results := [.lit (.bool false)], args := [d] }
  | _ => none }
def CalendarChecksWrongFalsely : Prop := calendarChecksRow.holds Try.pinned (OpenSpec.ofChange calendarChecksWrong)

/-- 'transitlaw14.CalendarExceptions': WHATEVER THE INPUT: true; the input reads as it did. -/
def calendarExceptionsSpec : ChangeSpec := { name := "calendarExceptions", fn := fun _ => fun
  | [d1, d2] => { results := [.lit (.bool true)], args := [d1, d2] }
  | _ => none }
def calendarExceptionsRow : OpenClaim := { program := "ytlbockpaeacigaa", sum := "50eee68d3897147a5e01e9006ebe862b749648599928d51cd6983fa407c39433", func := "transit/transitlaw14.CalendarExceptions", spec := "calendarExceptions", plainKeys := false, apart := false }
def CalendarExceptionsSaid : Prop := calendarExceptionsRow.holds Try.pinned (OpenSpec.ofChange calendarExceptionsSpec)

/-- ITS FALSE NEIGHBOUR: 'it returns false'. Refute it at one input. -/
def calendarExceptionsWrong : ChangeSpec := { name := "calendarExceptions", fn := fun _ => fun
  | [d1, d2] => { results := [.lit (.bool false)], args := [d1, d2] }
  | _ => none }
def CalendarExceptionsWrongFalsely : Prop := calendarExceptionsRow.holds Try.pinned (OpenSpec.ofChange calendarExceptionsWrong)

/-- 'transitlaw14.CalendarReasons': WHATEVER THE INPUT: true; the input reads as it did. -/
def calendarReasonsSpec : ChangeSpec := { name := "calendarReasons", fn := fun _ => fun
  | [d1, d2, d3] => { results := [.lit (.bool true)], args := [d1, d2, d3] }
  | _ => none }
def calendarReasonsRow : OpenClaim := { program := "ytlbockpaeacigaa", sum := "50eee68d3897147a5e01e9006ebe862b749648599928d51cd6983fa407c39433", func := "transit/transitlaw14.CalendarReasons", spec := "calendarReasons", plainKeys := false, apart := false }
def CalendarReasonsSaid : Prop := calendarReasonsRow.holds Try.pinned (OpenSpec.ofChange calendarReasonsSpec)

/-- ITS FALSE NEIGHBOUR: 'it returns false'. Refute it at one input. -/
def calendarReasonsWrong : ChangeSpec := { name := "calendarReasons", fn := fun _ => fun
  | [d1, d2, d3] => { results := [.lit (.bool false)], args := [d1, d2, d3] }
  | _ => none }
def CalendarReasonsWrongFalsely : Prop := calendarReasonsRow.holds Try.pinned (OpenSpec.ofChange calendarReasonsWrong)

/-- 'transitlaw14.CalendarDays': WHATEVER THE INPUT: true; the input reads as it did. -/
def calendarDaysSpec : ChangeSpec := { name := "calendarDays", fn := fun _ => fun
  | [d1, d2, d3] => { results := [.lit (.bool true)], args := [d1, d2, d3] }
  | _ => none }
def calendarDaysRow : OpenClaim := { program := "ytlbockpaeacigaa", sum := "50eee68d3897147a5e01e9006ebe862b749648599928d51cd6983fa407c39433", func := "transit/transitlaw14.CalendarDays", spec := "calendarDays", plainKeys := false, apart := false }
def CalendarDaysSaid : Prop := calendarDaysRow.holds Try.pinned (OpenSpec.ofChange calendarDaysSpec)

/-- ITS FALSE NEIGHBOUR: 'it returns false'. Refute it at one input. -/
def calendarDaysWrong : ChangeSpec := { name := "calendarDays", fn := fun _ => fun
  | [d1, d2, d3] => { results := [.lit (.bool false)], args := [d1, d2, d3] }
  | _ => none }
def CalendarDaysWrongFalsely : Prop := calendarDaysRow.holds Try.pinned (OpenSpec.ofChange calendarDaysWrong)

/-- 'transitlaw14.CalendarNexts': WHATEVER THE INPUT: true; the input reads as it did. -/
def calendarNextsSpec : ChangeSpec := { name := "calendarNexts", fn := fun _ => fun
  | [d1, d2, d3] => { results := [.lit (.bool true)], args := [d1, d2, d3] }
  | _ => none }
def calendarNextsRow : OpenClaim := { program := "ytlbockpaeacigaa", sum := "50eee68d3897147a5e01e9006ebe862b749648599928d51cd6983fa407c39433", func := "transit/transitlaw14.CalendarNexts", spec := "calendarNexts", plainKeys := false, apart := false }
def CalendarNextsSaid : Prop := calendarNextsRow.holds Try.pinned (OpenSpec.ofChange calendarNextsSpec)

/-- ITS FALSE NEIGHBOUR: 'it returns false'. Refute it at one input. -/
def calendarNextsWrong : ChangeSpec := { name := "calendarNexts", fn := fun _ => fun
  | [d1, d2, d3] => { results := [.lit (.bool false)], args := [d1, d2, d3] }
  | _ => none }
def CalendarNextsWrongFalsely : Prop := calendarNextsRow.holds Try.pinned (OpenSpec.ofChange calendarNextsWrong)

/-- 'transitlaw14.CalendarRanges': WHATEVER THE INPUT: true; the input reads as it did. -/
def calendarRangesSpec : ChangeSpec := { name := "calendarRanges", fn := fun _ => fun
  | [d1, d2, d3] => { results := [.lit (.bool true)], args := [d1, d2, d3] }
  | _ => none }
def calendarRangesRow : OpenClaim := { program := "ytlbockpaeacigaa", sum := "50eee68d3897147a5e01e9006ebe862b749648599928d51cd6983fa407c39433", func := "transit/transitlaw14.CalendarRanges", spec := "calendarRanges", plainKeys := false, apart := false }
def CalendarRangesSaid : Prop := calendarRangesRow.holds Try.pinned (OpenSpec.ofChange calendarRangesSpec)

/-- ITS FALSE NEIGHBOUR: 'it returns false'. Refute it at one input. -/
def calendarRangesWrong : ChangeSpec := { name := "calendarRanges", fn := fun _ => fun
  | [d1, d2, d3] => { results := [.lit (.bool false)], args := [d1, d2, d3] }
  | _ => none }
def CalendarRangesWrongFalsely : Prop := calendarRangesRow.holds Try.pinned (OpenSpec.ofChange calendarRangesWrong)

/-- 'transitlaw14.CalendarWeeks': WHATEVER THE INPUT: true; the input reads as it did. -/
def calendarWeeksSpec : ChangeSpec := { name := "calendarWeeks", fn := fun _ => fun
  | [d1, d2, d3] => { results := [.lit (.bool true)], args := [d1, d2, d3] }
  | _ => none }
def calendarWeeksRow : OpenClaim := { program := "ytlbockpaeacigaa", sum := "50eee68d3897147a5e01e9006ebe862b749648599928d51cd6983fa407c39433", func := "transit/transitlaw14.CalendarWeeks", spec := "calendarWeeks", plainKeys := false, apart := false }
def CalendarWeeksSaid : Prop := calendarWeeksRow.holds Try.pinned (OpenSpec.ofChange calendarWeeksSpec)

/-- ITS FALSE NEIGHBOUR: 'it returns false'. Refute it at one input. -/
def calendarWeeksWrong : ChangeSpec := { name := "calendarWeeks", fn := fun _ => fun
  | [d1, d2, d3] => { results := [.lit (.bool false)], args := [d1, d2, d3] }
  | _ => none }
def CalendarWeeksWrongFalsely : Prop := calendarWeeksRow.holds Try.pinned (OpenSpec.ofChange calendarWeeksWrong)

/-- 'transitlaw14.CalendarOverrides': WHATEVER THE INPUT: true; the input reads as it did. -/
def calendarOverridesSpec : ChangeSpec := { name := "calendarOverrides", fn := fun _ => fun
  | [d1, d2, d3] => { results := [.lit (.bool true)], args := [d1, d2, d3] }
  | _ => none }
def calendarOverridesRow : OpenClaim := { program := "ytlbockpaeacigaa", sum := "50eee68d3897147a5e01e9006ebe862b749648599928d51cd6983fa407c39433", func := "transit/transitlaw14.CalendarOverrides", spec := "calendarOverrides", plainKeys := false, apart := false }
def CalendarOverridesSaid : Prop := calendarOverridesRow.holds Try.pinned (OpenSpec.ofChange calendarOverridesSpec)

/-- ITS FALSE NEIGHBOUR: 'it returns false'. Refute it at one input. -/
def calendarOverridesWrong : ChangeSpec := { name := "calendarOverrides", fn := fun _ => fun
  | [d1, d2, d3] => { results := [.lit (.bool false)], args := [d1, d2, d3] }
  | _ => none }
def CalendarOverridesWrongFalsely : Prop := calendarOverridesRow.holds Try.pinned (OpenSpec.ofChange calendarOverridesWrong)

/- THE SECOND FORM. 'bulk': how many values and letters a reading holds, each counted each time it is reached (what is shared counts as often as it is met; a slice's spare places count too). A statement '..UptoSaid' is the law's where the arguments, and the package variables that the reading takes, are together of bulk at most 1048576: NARROWER than '..Said'. Prove '..Said' where nothing that the law and all that it calls make is longer than what came in: it says more and counts as full. Else prove '..UptoSaid'. A law counts once. -/
mutual
def uptoBulk {H : Type} : DataW H → Nat
  | .lit (.string bytes) => bytes.length + 1
  | .lit _ => 1
  | .nil => 1
  | .ptr d => uptoBulk d + 1
  | .slice elems spare => uptoBulkAll elems + uptoBulkAll spare + 1
  | .agg parts => uptoBulkAll parts + 1
  | .iface _ d => uptoBulk d + 1
  | .map entries => uptoBulkEntries entries + 1
  | .held _ => 1
def uptoBulkAll {H : Type} : List (DataW H) → Nat
  | [] => 0
  | d :: r => uptoBulk d + uptoBulkAll r
def uptoBulkEntries {H : Type} : List (Lit × DataW H) → Nat
  | [] => 0
  | x :: r => uptoBulkEntry x + uptoBulkEntries r
def uptoBulkEntry {H : Type} : Lit × DataW H → Nat
  | (.string bytes, d) => bytes.length + uptoBulk d + 1
  | (_, d) => uptoBulk d + 1
 end
def uptoSmall : (H : Type) → List (DataW H) → Bool := fun _ ds => decide (uptoBulkAll ds ≤ 1048576)
def OpenSpec.upto (s : _root_.Go.ChangeSpec) : _root_.Go.OpenSpec := { _root_.Go.OpenSpec.ofChange s with cond := some uptoSmall }

/-- 'transitlaw14.CalendarChecks', WHERE WHAT IT READS IS OF BULK AT MOST 1048576: true; the input reads as it did. -/
def calendarChecksUptoRow : OpenClaim := { program := "ytlbockpaeacigaa", sum := "50eee68d3897147a5e01e9006ebe862b749648599928d51cd6983fa407c39433", func := "transit/transitlaw14.CalendarChecks", spec := "calendarChecks", plainKeys := false, apart := false, narrowed := true }
def CalendarChecksUptoSaid : Prop := calendarChecksUptoRow.holds Try.pinned (OpenSpec.upto calendarChecksSpec)

/-- 'transitlaw14.CalendarExceptions', WHERE WHAT IT READS IS OF BULK AT MOST 1048576: true; the input reads as it did. -/
def calendarExceptionsUptoRow : OpenClaim := { program := "ytlbockpaeacigaa", sum := "50eee68d3897147a5e01e9006ebe862b749648599928d51cd6983fa407c39433", func := "transit/transitlaw14.CalendarExceptions", spec := "calendarExceptions", plainKeys := false, apart := false, narrowed := true }
def CalendarExceptionsUptoSaid : Prop := calendarExceptionsUptoRow.holds Try.pinned (OpenSpec.upto calendarExceptionsSpec)

/-- 'transitlaw14.CalendarReasons', WHERE WHAT IT READS IS OF BULK AT MOST 1048576: true; the input reads as it did. -/
def calendarReasonsUptoRow : OpenClaim := { program := "ytlbockpaeacigaa", sum := "50eee68d3897147a5e01e9006ebe862b749648599928d51cd6983fa407c39433", func := "transit/transitlaw14.CalendarReasons", spec := "calendarReasons", plainKeys := false, apart := false, narrowed := true }
def CalendarReasonsUptoSaid : Prop := calendarReasonsUptoRow.holds Try.pinned (OpenSpec.upto calendarReasonsSpec)

/-- 'transitlaw14.CalendarDays', WHERE WHAT IT READS IS OF BULK AT MOST 1048576: true; the input reads as it did. -/
def calendarDaysUptoRow : OpenClaim := { program := "ytlbockpaeacigaa", sum := "50eee68d3897147a5e01e9006ebe862b749648599928d51cd6983fa407c39433", func := "transit/transitlaw14.CalendarDays", spec := "calendarDays", plainKeys := false, apart := false, narrowed := true }
def CalendarDaysUptoSaid : Prop := calendarDaysUptoRow.holds Try.pinned (OpenSpec.upto calendarDaysSpec)

/-- 'transitlaw14.CalendarNexts', WHERE WHAT IT READS IS OF BULK AT MOST 1048576: true; the input reads as it did. -/
def calendarNextsUptoRow : OpenClaim := { program := "ytlbockpaeacigaa", sum := "50eee68d3897147a5e01e9006ebe862b749648599928d51cd6983fa407c39433", func := "transit/transitlaw14.CalendarNexts", spec := "calendarNexts", plainKeys := false, apart := false, narrowed := true }
def CalendarNextsUptoSaid : Prop := calendarNextsUptoRow.holds Try.pinned (OpenSpec.upto calendarNextsSpec)

/-- 'transitlaw14.CalendarRanges', WHERE WHAT IT READS IS OF BULK AT MOST 1048576: true; the input reads as it did. -/
def calendarRangesUptoRow : OpenClaim := { program := "ytlbockpaeacigaa", sum := "50eee68d3897147a5e01e9006ebe862b749648599928d51cd6983fa407c39433", func := "transit/transitlaw14.CalendarRanges", spec := "calendarRanges", plainKeys := false, apart := false, narrowed := true }
def CalendarRangesUptoSaid : Prop := calendarRangesUptoRow.holds Try.pinned (OpenSpec.upto calendarRangesSpec)

/-- 'transitlaw14.CalendarWeeks', WHERE WHAT IT READS IS OF BULK AT MOST 1048576: true; the input reads as it did. -/
def calendarWeeksUptoRow : OpenClaim := { program := "ytlbockpaeacigaa", sum := "50eee68d3897147a5e01e9006ebe862b749648599928d51cd6983fa407c39433", func := "transit/transitlaw14.CalendarWeeks", spec := "calendarWeeks", plainKeys := false, apart := false, narrowed := true }
def CalendarWeeksUptoSaid : Prop := calendarWeeksUptoRow.holds Try.pinned (OpenSpec.upto calendarWeeksSpec)

/-- 'transitlaw14.CalendarOverrides', WHERE WHAT IT READS IS OF BULK AT MOST 1048576: true; the input reads as it did. -/
def calendarOverridesUptoRow : OpenClaim := { program := "ytlbockpaeacigaa", sum := "50eee68d3897147a5e01e9006ebe862b749648599928d51cd6983fa407c39433", func := "transit/transitlaw14.CalendarOverrides", spec := "calendarOverrides", plainKeys := false, apart := false, narrowed := true }
def CalendarOverridesUptoSaid : Prop := calendarOverridesUptoRow.holds Try.pinned (OpenSpec.upto calendarOverridesSpec)

end Rows
end Go.Proofs.Ytlbockpaeacigaa
