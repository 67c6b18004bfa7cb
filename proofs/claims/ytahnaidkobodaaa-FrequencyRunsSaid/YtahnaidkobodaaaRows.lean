/-
  No cell of these rows narrows 'for every input' (looked for: loops, veiled, ifaces, maps, wideKeys, modest, calm, conditions, laid).
  DERIVED. THE GIVEN ROWS OF THIS SEAT. 5 by the template 'for every input the law returns true; each argument reads behind the call as it read before'; 0 by the template 'total and deterministic' (their statements: YtahnaidkobodaaaTotals.lean).
  GIVEN WITH THE SEED: the statements are not yours to turn. If you find one false, say at which input.
  Laid BY PROGRAM, IN A SANDBOX (cutbox-rows.mjs): the forced cells as the released guide's own fill.sh prints them over the translation 6388ecb538081821… (all of the seat's roots in one cut). By AI agents, Wed Nov 11 2026. No macro, syntax, notation, axiom, sorry.
-/
import Derived.Test.YtahnaidkobodaaaChecked
import GoSem.Claim
import GoSem.ClaimJoined
import GoSem.ClaimMapViews
import Derived.JoinedTies
import Derived.KernelRfl
namespace Go.Proofs.Ytahnaidkobodaaa
/- THE CELL 'sum', in the pinned program and in every row, IS THE sha256 OF THE DUMP (.gsa) THAT YtahnaidkobodaaaProg.lean LOADS. Nothing in Lean hashes anything: it is a label: what it is worth is what the hold of that sum in a sandbox is worth. -/
noncomputable def Try.pinned : Pinned := { name := "ytahnaidkobodaaa", sum := "6388ecb538081821256a99269d482fae2a1a718b31db63950eba49d413e8d4f3", checked := Try.checked }
namespace Rows
def none {H : Type} : Left H := { results := [], args := [] }

/-- 'transitlaw18.FrequencyChecks': WHATEVER THE INPUT: true; the input reads as it did. -/
def frequencyChecksSpec : ChangeSpec := { name := "frequencyChecks", fn := fun _ => fun
  | [d1, d2] => { results := [.lit (.bool true)], args := [d1, d2] }
  | _ => none }
def frequencyChecksRow : OpenClaim := { program := "ytahnaidkobodaaa", sum := "6388ecb538081821256a99269d482fae2a1a718b31db63950eba49d413e8d4f3", func := "transit/transitlaw18.FrequencyChecks", spec := "frequencyChecks", unfollowed := true, recurses := true, apart := false }
def FrequencyChecksSaid : Prop := frequencyChecksRow.holds Try.pinned (OpenSpec.ofChange frequencyChecksSpec)

/-- ITS FALSE NEIGHBOUR: 'it returns false'. Refute it at one input. -/
def frequencyChecksWrong : ChangeSpec := { name := "frequencyChecks", fn := fun _ => fun
  | [d1, d2] => { results := [.lit (.bool false)], args := [d1, d2] }
  | _ => none }
def FrequencyChecksWrongFalsely : Prop := frequencyChecksRow.holds Try.pinned (OpenSpec.ofChange frequencyChecksWrong)

/-- 'transitlaw18.FrequencyStarts': WHATEVER THE INPUT: true; the input reads as it did. -/
def frequencyStartsSpec : ChangeSpec := { name := "frequencyStarts", fn := fun _ => fun
  | [d1, d2] => { results := [.lit (.bool true)], args := [d1, d2] }
  | _ => none }
def frequencyStartsRow : OpenClaim := { program := "ytahnaidkobodaaa", sum := "6388ecb538081821256a99269d482fae2a1a718b31db63950eba49d413e8d4f3", func := "transit/transitlaw18.FrequencyStarts", spec := "frequencyStarts", unfollowed := true, recurses := true, apart := false }
def FrequencyStartsSaid : Prop := frequencyStartsRow.holds Try.pinned (OpenSpec.ofChange frequencyStartsSpec)

/-- ITS FALSE NEIGHBOUR: 'it returns false'. Refute it at one input. -/
def frequencyStartsWrong : ChangeSpec := { name := "frequencyStarts", fn := fun _ => fun
  | [d1, d2] => { results := [.lit (.bool false)], args := [d1, d2] }
  | _ => none }
def FrequencyStartsWrongFalsely : Prop := frequencyStartsRow.holds Try.pinned (OpenSpec.ofChange frequencyStartsWrong)

/-- 'transitlaw18.FrequencyShifts': WHATEVER THE INPUT: true; the input reads as it did. -/
def frequencyShiftsSpec : ChangeSpec := { name := "frequencyShifts", fn := fun _ => fun
  | [d1, d2] => { results := [.lit (.bool true)], args := [d1, d2] }
  | _ => none }
def frequencyShiftsRow : OpenClaim := { program := "ytahnaidkobodaaa", sum := "6388ecb538081821256a99269d482fae2a1a718b31db63950eba49d413e8d4f3", func := "transit/transitlaw18.FrequencyShifts", spec := "frequencyShifts", unfollowed := true, recurses := true, apart := false }
def FrequencyShiftsSaid : Prop := frequencyShiftsRow.holds Try.pinned (OpenSpec.ofChange frequencyShiftsSpec)

/-- ITS FALSE NEIGHBOUR: 'it returns false'. Refute it at one input. -/
def frequencyShiftsWrong : ChangeSpec := { name := "frequencyShifts", fn := fun _ => fun
  | [d1, d2] => { results := [.lit (.bool false)], args := [d1, d2] }
  | _ => none }
def FrequencyShiftsWrongFalsely : Prop := frequencyShiftsRow.holds Try.pinned (OpenSpec.ofChange frequencyShiftsWrong)

/-- 'transitlaw18.FrequencyEven': WHATEVER THE INPUT: true; the input reads as it did. -/
def frequencyEvenSpec : ChangeSpec := { name := "frequencyEven", fn := fun _ => fun
  | [d1, d2] => { results := [.lit (.bool true)], args := [d1, d2] }
  | _ => none }
def frequencyEvenRow : OpenClaim := { program := "ytahnaidkobodaaa", sum := "6388ecb538081821256a99269d482fae2a1a718b31db63950eba49d413e8d4f3", func := "transit/transitlaw18.FrequencyEven", spec := "frequencyEven", unfollowed := true, recurses := true, apart := false }
def FrequencyEvenSaid : Prop := frequencyEvenRow.holds Try.pinned (OpenSpec.ofChange frequencyEvenSpec)

/-- ITS FALSE NEIGHBOUR: 'it returns false'. Refute it at one input. -/
def frequencyEvenWrong : ChangeSpec := { name := "frequencyEven", fn := fun _ => fun
  | [d1, d2] => { results := [.lit (.bool false)], args := [d1, d2] }
  | _ => none }
def FrequencyEvenWrongFalsely : Prop := frequencyEvenRow.holds Try.pinned (OpenSpec.ofChange frequencyEvenWrong)

/-- 'transitlaw18.FrequencyRuns': WHATEVER THE INPUT: true; the input reads as it did. -/
def frequencyRunsSpec : ChangeSpec := { name := "frequencyRuns", fn := fun _ => fun
  | [d1, d2] => { results := [.lit (.bool true)], args := [d1, d2] }
  | _ => none }
def frequencyRunsRow : OpenClaim := { program := "ytahnaidkobodaaa", sum := "6388ecb538081821256a99269d482fae2a1a718b31db63950eba49d413e8d4f3", func := "transit/transitlaw18.FrequencyRuns", spec := "frequencyRuns", unfollowed := true, recurses := true, apart := false }
def FrequencyRunsSaid : Prop := frequencyRunsRow.holds Try.pinned (OpenSpec.ofChange frequencyRunsSpec)

/-- ITS FALSE NEIGHBOUR: 'it returns false'. Refute it at one input. -/
def frequencyRunsWrong : ChangeSpec := { name := "frequencyRuns", fn := fun _ => fun
  | [d1, d2] => { results := [.lit (.bool false)], args := [d1, d2] }
  | _ => none }
def FrequencyRunsWrongFalsely : Prop := frequencyRunsRow.holds Try.pinned (OpenSpec.ofChange frequencyRunsWrong)

/- THE SECOND FORM. 'bulk': how many values and letters a reading holds, each counted each time it is reached (what is shared counts as often as it is met; a slice's spare places count too). A statement '..UptoSaid' is the law's where the arguments, and the package variables that the reading takes, are together of bulk at most 1048576: NARROWER than '..Said'. Prove '..Said' where nothing that the law and all that it calls make is longer than what came in: it says more and counts as full. Else prove '..UptoSaid'. A law counts once. -/
mutual
def uptoBulk {H : Type} : DataW H → Nat
  | .lit (.string bytes) => bytes.length + 1
  | .lit _ => 1
  | .nil => 1
  | .ptr d => uptoBulk d + 1
  | .slice elems spare => uptoBulkAll elems + uptoBulkAll spare + 1
  | .agg parts => uptoBulkAll parts + 1
  | .iface _ d => uptoBulk d + 1
  | .map entries => uptoBulkEntries entries + 1
  | .held _ => 1
def uptoBulkAll {H : Type} : List (DataW H) → Nat
  | [] => 0
  | d :: r => uptoBulk d + uptoBulkAll r
def uptoBulkEntries {H : Type} : List (Lit × DataW H) → Nat
  | [] => 0
  | x :: r => uptoBulkEntry x + uptoBulkEntries r
def uptoBulkEntry {H : Type} : Lit × DataW H → Nat
  | (.string bytes, d) => bytes.length + uptoBulk d + 1
  | (_, d) => uptoBulk d + 1
 end
def uptoSmall : (H : Type) → List (DataW H) → Bool := fun _ ds => decide (uptoBulkAll ds ≤ 1048576)
def OpenSpec.upto (s : _root_.Go.ChangeSpec) : _root_.Go.OpenSpec := { _root_.Go.OpenSpec.ofChange s with cond := some uptoSmall }

/-- 'transitlaw18.FrequencyChecks', WHERE WHAT IT READS IS OF BULK AT MOST 1048576: true; the input reads as it did. -/
def frequencyChecksUptoRow : OpenClaim := { program := "ytahnaidkobodaaa", sum := "6388ecb538081821256a99269d482fae2a1a718b31db63950eba49d413e8d4f3", func := "transit/transitlaw18.FrequencyChecks", spec := "frequencyChecks", unfollowed := true, recurses := true, apart := false, narrowed := true }
def FrequencyChecksUptoSaid : Prop := frequencyChecksUptoRow.holds Try.pinned (OpenSpec.upto frequencyChecksSpec)

/-- 'transitlaw18.FrequencyStarts', WHERE WHAT IT READS IS OF BULK AT MOST 1048576: true; the input reads as it did. -/
def frequencyStartsUptoRow : OpenClaim := { program := "ytahnaidkobodaaa", sum := "6388ecb538081821256a99269d482fae2a1a718b31db63950eba49d413e8d4f3", func := "transit/transitlaw18.FrequencyStarts", spec := "frequencyStarts", unfollowed := true, recurses := true, apart := false, narrowed := true }
def FrequencyStartsUptoSaid : Prop := frequencyStartsUptoRow.holds Try.pinned (OpenSpec.upto frequencyStartsSpec)

/-- 'transitlaw18.FrequencyShifts', WHERE WHAT IT READS IS OF BULK AT MOST 1048576: true; the input reads as it did. -/
def frequencyShiftsUptoRow : OpenClaim := { program := "ytahnaidkobodaaa", sum := "6388ecb538081821256a99269d482fae2a1a718b31db63950eba49d413e8d4f3", func := "transit/transitlaw18.FrequencyShifts", spec := "frequencyShifts", unfollowed := true, recurses := true, apart := false, narrowed := true }
def FrequencyShiftsUptoSaid : Prop := frequencyShiftsUptoRow.holds Try.pinned (OpenSpec.upto frequencyShiftsSpec)

/-- 'transitlaw18.FrequencyEven', WHERE WHAT IT READS IS OF BULK AT MOST 1048576: true; the input reads as it did. -/
def frequencyEvenUptoRow : OpenClaim := { program := "ytahnaidkobodaaa", sum := "6388ecb538081821256a99269d482fae2a1a718b31db63950eba49d413e8d4f3", func := "transit/transitlaw18.FrequencyEven", spec := "frequencyEven", unfollowed := true, recurses := true, apart := false, narrowed := true }
def FrequencyEvenUptoSaid : Prop := frequencyEvenUptoRow.holds Try.pinned (OpenSpec.upto frequencyEvenSpec)

/-- 'transitlaw18.FrequencyRuns', WHERE WHAT IT READS IS OF BULK AT MOST 1048576: true; the input reads as it did. -/
def frequencyRunsUptoRow : OpenClaim := { program := "ytahnaidkobodaaa", sum := "6388ecb538081821256a99269d482fae2a1a718b31db63950eba49d413e8d4f3", func := "transit/transitlaw18.FrequencyRuns", spec := "frequencyRuns", unfollowed := true, recurses := true, apart := false, narrowed := true }
def FrequencyRunsUptoSaid : Prop := frequencyRunsUptoRow.holds Try.pinned (OpenSpec.upto frequencyRunsSpec)

end Rows
end Go.Proofs.Ytahnaidkobodaaa
