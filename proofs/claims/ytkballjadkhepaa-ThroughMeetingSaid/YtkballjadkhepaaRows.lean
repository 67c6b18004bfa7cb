/-
  No cell of these rows narrows 'for every input' (looked for: loops, veiled, ifaces, maps, wideKeys, modest, calm, conditions, laid).
  DERIVED. THE GIVEN ROWS OF THIS SEAT. 8 by the template 'for every input the law returns true; each argument reads behind the call as it read before'; 0 by the template 'total and deterministic' (their statements: YtkballjadkhepaaTotals.lean).
  GIVEN WITH THE SEED: the statements are not yours to turn. If you find one false, say at which input.
  Laid BY PROGRAM, IN A SANDBOX (cutbox-rows.mjs): the forced cells as the released guide's own fill.sh prints them over the translation 7022a57f470bd398… (all of the seat's roots in one cut). By AI agents, Wed Nov 11 2026. No macro, syntax, notation, axiom, sorry.
-/
import Derived.Test.YtkballjadkhepaaChecked
import GoSem.Claim
import GoSem.ClaimJoined
import GoSem.ClaimMapViews
import Derived.JoinedTies
import Derived.KernelRfl
namespace Go.Proofs.Ytkballjadkhepaa
/- THE CELL 'sum', in the pinned program and in every row, IS THE sha256 OF THE DUMP (.gsa) THAT YtkballjadkhepaaProg.lean LOADS. Nothing in Lean hashes anything: it is a label: what it is worth is what the hold of that sum in a sandbox is worth. -/
noncomputable def Try.pinned : Pinned := { name := "ytkballjadkhepaa", sum := "7022a57f470bd398cc8386bf2d42c00c4591e75cc6eed52a1c64e86e3ff09f53", checked := Try.checked }
namespace Rows
def none {H : Type} : Left H := { results := [], args := [] }

/-- 'transitlaw19.ThroughChecks': WHATEVER THE INPUT: true; the input reads as it did. -/
def throughChecksSpec : ChangeSpec := { name := "throughChecks", fn := fun _ => fun
  | [d] => { results := [.lit (.bool true)], args := [d] }
  | _ => none }
def throughChecksRow : OpenClaim := { program := "ytkballjadkhepaa", sum := "7022a57f470bd398cc8386bf2d42c00c4591e75cc6eed52a1c64e86e3ff09f53", func := "transit/transitlaw19.ThroughChecks", spec := "throughChecks", unfollowed := true, recurses := true, plainKeys := false, apart := false }
def ThroughChecksSaid : Prop := throughChecksRow.holds Try.pinned (OpenSpec.ofChange throughChecksSpec)

/-- ITS FALSE NEIGHBOUR: 'it returns false'. Refute it at one input. -/
def throughChecksWrong : ChangeSpec := { name := "throughChecks", fn := fun _ => fun
  | [d] => { results := [.lit (.bool false)], args := [d] }
  | _ => none }
def ThroughChecksWrongFalsely : Prop := throughChecksRow.holds Try.pinned (OpenSpec.ofChange throughChecksWrong)

/-- 'transitlaw19.ThroughGuarantees': WHATEVER THE INPUT: true; the input reads as it did. -/
def throughGuaranteesSpec : ChangeSpec := { name := "throughGuarantees", fn := fun _ => fun
  | [d] => { results := [.lit (.bool true)], args := [d] }
  | _ => none }
def throughGuaranteesRow : OpenClaim := { program := "ytkballjadkhepaa", sum := "7022a57f470bd398cc8386bf2d42c00c4591e75cc6eed52a1c64e86e3ff09f53", func := "transit/transitlaw19.ThroughGuarantees", spec := "throughGuarantees", unfollowed := true, recurses := true, plainKeys := false, apart := false }
def ThroughGuaranteesSaid : Prop := throughGuaranteesRow.holds Try.pinned (OpenSpec.ofChange throughGuaranteesSpec)

/-- ITS FALSE NEIGHBOUR: 'it returns false'. Refute it at one input. -/
def throughGuaranteesWrong : ChangeSpec := { name := "throughGuarantees", fn := fun _ => fun
  | [d] => { results := [.lit (.bool false)], args := [d] }
  | _ => none }
def ThroughGuaranteesWrongFalsely : Prop := throughGuaranteesRow.holds Try.pinned (OpenSpec.ofChange throughGuaranteesWrong)

/-- 'transitlaw19.ThroughNext': WHATEVER THE INPUT: true; the input reads as it did. -/
def throughNextSpec : ChangeSpec := { name := "throughNext", fn := fun _ => fun
  | [d1, d2] => { results := [.lit (.bool true)], args := [d1, d2] }
  | _ => none }
def throughNextRow : OpenClaim := { program := "ytkballjadkhepaa", sum := "7022a57f470bd398cc8386bf2d42c00c4591e75cc6eed52a1c64e86e3ff09f53", func := "transit/transitlaw19.ThroughNext", spec := "throughNext", unfollowed := true, recurses := true, plainKeys := false, apart := false }
def ThroughNextSaid : Prop := throughNextRow.holds Try.pinned (OpenSpec.ofChange throughNextSpec)

/-- ITS FALSE NEIGHBOUR: 'it returns false'. Refute it at one input. -/
def throughNextWrong : ChangeSpec := { name := "throughNext", fn := fun _ => fun
  | [d1, d2] => { results := [.lit (.bool false)], args := [d1, d2] }
  | _ => none }
def ThroughNextWrongFalsely : Prop := throughNextRow.holds Try.pinned (OpenSpec.ofChange throughNextWrong)

/-- 'transitlaw19.ThroughChains': WHATEVER THE INPUT: true; the input reads as it did. -/
def throughChainsSpec : ChangeSpec := { name := "throughChains", fn := fun _ => fun
  | [d1, d2] => { results := [.lit (.bool true)], args := [d1, d2] }
  | _ => none }
def throughChainsRow : OpenClaim := { program := "ytkballjadkhepaa", sum := "7022a57f470bd398cc8386bf2d42c00c4591e75cc6eed52a1c64e86e3ff09f53", func := "transit/transitlaw19.ThroughChains", spec := "throughChains", unfollowed := true, recurses := true, plainKeys := false, apart := false }
def ThroughChainsSaid : Prop := throughChainsRow.holds Try.pinned (OpenSpec.ofChange throughChainsSpec)

/-- ITS FALSE NEIGHBOUR: 'it returns false'. Refute it at one input. -/
def throughChainsWrong : ChangeSpec := { name := "throughChains", fn := fun _ => fun
  | [d1, d2] => { results := [.lit (.bool false)], args := [d1, d2] }
  | _ => none }
def ThroughChainsWrongFalsely : Prop := throughChainsRow.holds Try.pinned (OpenSpec.ofChange throughChainsWrong)

/-- 'transitlaw19.ThroughMeets': WHATEVER THE INPUT: true; the input reads as it did. -/
def throughMeetsSpec : ChangeSpec := { name := "throughMeets", fn := fun _ => fun
  | [d1, d2, d3] => { results := [.lit (.bool true)], args := [d1, d2, d3] }
  | _ => none }
def throughMeetsRow : OpenClaim := { program := "ytkballjadkhepaa", sum := "7022a57f470bd398cc8386bf2d42c00c4591e75cc6eed52a1c64e86e3ff09f53", func := "transit/transitlaw19.ThroughMeets", spec := "throughMeets", unfollowed := true, recurses := true, plainKeys := false, apart := false }
def ThroughMeetsSaid : Prop := throughMeetsRow.holds Try.pinned (OpenSpec.ofChange throughMeetsSpec)

/-- ITS FALSE NEIGHBOUR: 'it returns false'. Refute it at one input. -/
def throughMeetsWrong : ChangeSpec := { name := "throughMeets", fn := fun _ => fun
  | [d1, d2, d3] => { results := [.lit (.bool false)], args := [d1, d2, d3] }
  | _ => none }
def ThroughMeetsWrongFalsely : Prop := throughMeetsRow.holds Try.pinned (OpenSpec.ofChange throughMeetsWrong)

/-- 'transitlaw19.ThroughChain': WHATEVER THE INPUT: true; the input reads as it did. -/
def throughChainSpec : ChangeSpec := { name := "throughChain", fn := fun _ => fun
  | [d1, d2] => { results := [.lit (.bool true)], args := [d1, d2] }
  | _ => none }
def throughChainRow : OpenClaim := { program := "ytkballjadkhepaa", sum := "7022a57f470bd398cc8386bf2d42c00c4591e75cc6eed52a1c64e86e3ff09f53", func := "transit/transitlaw19.ThroughChain", spec := "throughChain", unfollowed := true, recurses := true, plainKeys := false, apart := false }
def ThroughChainSaid : Prop := throughChainRow.holds Try.pinned (OpenSpec.ofChange throughChainSpec)

/-- ITS FALSE NEIGHBOUR: 'it returns false'. Refute it at one input. -/
def throughChainWrong : ChangeSpec := { name := "throughChain", fn := fun _ => fun
  | [d1, d2] => { results := [.lit (.bool false)], args := [d1, d2] }
  | _ => none }
def ThroughChainWrongFalsely : Prop := throughChainRow.holds Try.pinned (OpenSpec.ofChange throughChainWrong)

/-- 'transitlaw19.ThroughPrefix': WHATEVER THE INPUT: true; the input reads as it did. -/
def throughPrefixSpec : ChangeSpec := { name := "throughPrefix", fn := fun _ => fun
  | [d1, d2] => { results := [.lit (.bool true)], args := [d1, d2] }
  | _ => none }
def throughPrefixRow : OpenClaim := { program := "ytkballjadkhepaa", sum := "7022a57f470bd398cc8386bf2d42c00c4591e75cc6eed52a1c64e86e3ff09f53", func := "transit/transitlaw19.ThroughPrefix", spec := "throughPrefix", unfollowed := true, recurses := true, plainKeys := false, apart := false }
def ThroughPrefixSaid : Prop := throughPrefixRow.holds Try.pinned (OpenSpec.ofChange throughPrefixSpec)

/-- ITS FALSE NEIGHBOUR: 'it returns false'. Refute it at one input. -/
def throughPrefixWrong : ChangeSpec := { name := "throughPrefix", fn := fun _ => fun
  | [d1, d2] => { results := [.lit (.bool false)], args := [d1, d2] }
  | _ => none }
def ThroughPrefixWrongFalsely : Prop := throughPrefixRow.holds Try.pinned (OpenSpec.ofChange throughPrefixWrong)

/-- 'transitlaw19.ThroughMeeting': WHATEVER THE INPUT: true; the input reads as it did. -/
def throughMeetingSpec : ChangeSpec := { name := "throughMeeting", fn := fun _ => fun
  | [d1, d2, d3] => { results := [.lit (.bool true)], args := [d1, d2, d3] }
  | _ => none }
def throughMeetingRow : OpenClaim := { program := "ytkballjadkhepaa", sum := "7022a57f470bd398cc8386bf2d42c00c4591e75cc6eed52a1c64e86e3ff09f53", func := "transit/transitlaw19.ThroughMeeting", spec := "throughMeeting", unfollowed := true, recurses := true, plainKeys := false, apart := false }
def ThroughMeetingSaid : Prop := throughMeetingRow.holds Try.pinned (OpenSpec.ofChange throughMeetingSpec)

/-- ITS FALSE NEIGHBOUR: 'it returns false'. Refute it at one input. -/
def throughMeetingWrong : ChangeSpec := { name := "throughMeeting", fn := fun _ => fun
  | [d1, d2, d3] => { results := [.lit (.bool false)], args := [d1, d2, d3] }
  | _ => none }
def ThroughMeetingWrongFalsely : Prop := throughMeetingRow.holds Try.pinned (OpenSpec.ofChange throughMeetingWrong)

/- THE SECOND FORM. 'bulk': how many values and letters a reading holds, each counted each time it is reached (what is shared counts as often as it is met; a slice's spare places count too). A statement '..UptoSaid' is the law's where the arguments, and the package variables that the reading takes, are together of bulk at most 1048576: NARROWER than '..Said'. Prove '..Said' where nothing that the law and all that it calls make is longer than what came in: it says more and counts as full. Else prove '..UptoSaid'. A law counts once. -/
mutual
def uptoBulk {H : Type} : DataW H → Nat
  | .lit (.string bytes) => bytes.length + 1
  | .lit _ => 1
  | .nil => 1
  | .ptr d => uptoBulk d + 1
  | .slice elems spare => uptoBulkAll elems + uptoBulkAll spare + 1
  | .agg parts => uptoBulkAll parts + 1
  | .iface _ d => uptoBulk d + 1
  | .map entries => uptoBulkEntries entries + 1
  | .held _ => 1
def uptoBulkAll {H : Type} : List (DataW H) → Nat
  | [] => 0
  | d :: r => uptoBulk d + uptoBulkAll r
def uptoBulkEntries {H : Type} : List (Lit × DataW H) → Nat
  | [] => 0
  | x :: r => uptoBulkEntry x + uptoBulkEntries r
def uptoBulkEntry {H : Type} : Lit × DataW H → Nat
  | (.string bytes, d) => bytes.length + uptoBulk d + 1
  | (_, d) => uptoBulk d + 1
 end
def uptoSmall : (H : Type) → List (DataW H) → Bool := fun _ ds => decide (uptoBulkAll ds ≤ 1048576)
def OpenSpec.upto (s : _root_.Go.ChangeSpec) : _root_.Go.OpenSpec := { _root_.Go.OpenSpec.ofChange s with cond := some uptoSmall }

/-- 'transitlaw19.ThroughChecks', WHERE WHAT IT READS IS OF BULK AT MOST 1048576: true; the input reads as it did. -/
def throughChecksUptoRow : OpenClaim := { program := "ytkballjadkhepaa", sum := "7022a57f470bd398cc8386bf2d42c00c4591e75cc6eed52a1c64e86e3ff09f53", func := "transit/transitlaw19.ThroughChecks", spec := "throughChecks", unfollowed := true, recurses := true, plainKeys := false, apart := false, narrowed := true }
def ThroughChecksUptoSaid : Prop := throughChecksUptoRow.holds Try.pinned (OpenSpec.upto throughChecksSpec)

/-- 'transitlaw19.ThroughGuarantees', WHERE WHAT IT READS IS OF BULK AT MOST 1048576: true; the input reads as it did. -/
def throughGuaranteesUptoRow : OpenClaim := { program := "ytkballjadkhepaa", sum := "7022a57f470bd398cc8386bf2d42c00c4591e75cc6eed52a1c64e86e3ff09f53", func := "transit/transitlaw19.ThroughGuarantees", spec := "throughGuarantees", unfollowed := true, recurses := true, plainKeys := false, apart := false, narrowed := true }
def ThroughGuaranteesUptoSaid : Prop := throughGuaranteesUptoRow.holds Try.pinned (OpenSpec.upto throughGuaranteesSpec)

/-- 'transitlaw19.ThroughNext', WHERE WHAT IT READS IS OF BULK AT MOST 1048576: true; the input reads as it did. -/
def throughNextUptoRow : OpenClaim := { program := "ytkballjadkhepaa", sum := "7022a57f470bd398cc8386bf2d42c00c4591e75cc6eed52a1c64e86e3ff09f53", func := "transit/transitlaw19.ThroughNext", spec := "throughNext", unfollowed := true, recurses := true, plainKeys := false, apart := false, narrowed := true }
def ThroughNextUptoSaid : Prop := throughNextUptoRow.holds Try.pinned (OpenSpec.upto throughNextSpec)

/-- 'transitlaw19.ThroughChains', WHERE WHAT IT READS IS OF BULK AT MOST 1048576: true; the input reads as it did. -/
def throughChainsUptoRow : OpenClaim := { program := "ytkballjadkhepaa", sum := "7022a57f470bd398cc8386bf2d42c00c4591e75cc6eed52a1c64e86e3ff09f53", func := "transit/transitlaw19.ThroughChains", spec := "throughChains", unfollowed := true, recurses := true, plainKeys := false, apart := false, narrowed := true }
def ThroughChainsUptoSaid : Prop := throughChainsUptoRow.holds Try.pinned (OpenSpec.upto throughChainsSpec)

/-- 'transitlaw19.ThroughMeets', WHERE WHAT IT READS IS OF BULK AT MOST 1048576: true; the input reads as it did. -/
def throughMeetsUptoRow : OpenClaim := { program := "ytkballjadkhepaa", sum := "7022a57f470bd398cc8386bf2d42c00c4591e75cc6eed52a1c64e86e3ff09f53", func := "transit/transitlaw19.ThroughMeets", spec := "throughMeets", unfollowed := true, recurses := true, plainKeys := false, apart := false, narrowed := true }
def ThroughMeetsUptoSaid : Prop := throughMeetsUptoRow.holds Try.pinned (OpenSpec.upto throughMeetsSpec)

/-- 'transitlaw19.ThroughChain', WHERE WHAT IT READS IS OF BULK AT MOST 1048576: true; the input reads as it did. -/
def throughChainUptoRow : OpenClaim := { program := "ytkballjadkhepaa", sum := "7022a57f470bd398cc8386bf2d42c00c4591e75cc6eed52a1c64e86e3ff09f53", func := "transit/transitlaw19.ThroughChain", spec := "throughChain", unfollowed := true, recurses := true, plainKeys := false, apart := false, narrowed := true }
def ThroughChainUptoSaid : Prop := throughChainUptoRow.holds Try.pinned (OpenSpec.upto throughChainSpec)

/-- 'transitlaw19.ThroughPrefix', WHERE WHAT IT READS IS OF BULK AT MOST 1048576: true; the input reads as it did. -/
def throughPrefixUptoRow : OpenClaim := { program := "ytkballjadkhepaa", sum := "7022a57f470bd398cc8386bf2d42c00c4591e75cc6eed52a1c64e86e3ff09f53", func := "transit/transitlaw19.ThroughPrefix", spec := "throughPrefix", unfollowed := true, recurses := true, plainKeys := false, apart := false, narrowed := true }
def ThroughPrefixUptoSaid : Prop := throughPrefixUptoRow.holds Try.pinned (OpenSpec.upto throughPrefixSpec)

/-- 'transitlaw19.ThroughMeeting', WHERE WHAT IT READS IS OF BULK AT MOST 1048576: true; the input reads as it did. -/
def throughMeetingUptoRow : OpenClaim := { program := "ytkballjadkhepaa", sum := "7022a57f470bd398cc8386bf2d42c00c4591e75cc6eed52a1c64e86e3ff09f53", func := "transit/transitlaw19.ThroughMeeting", spec := "throughMeeting", unfollowed := true, recurses := true, plainKeys := false, apart := false, narrowed := true }
def ThroughMeetingUptoSaid : Prop := throughMeetingUptoRow.holds Try.pinned (OpenSpec.upto throughMeetingSpec)

end Rows
end Go.Proofs.Ytkballjadkhepaa
