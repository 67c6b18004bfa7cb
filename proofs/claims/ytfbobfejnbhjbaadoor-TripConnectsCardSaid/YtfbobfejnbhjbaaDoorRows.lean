/-
  NARROWER THAN 'FOR EVERY INPUT', by the rows' own cells (each row's printed sentence says how): TripChecks: laid · TripFinds: laid · TripPatterns: laid · TripGroups: laid · TripOvertakes: laid · TripConnects: laid · TripPartition: laid · TripFollows: laid · TripPasses: laid.
  DERIVED. THE GIVEN ROWS OF THIS SEAT. 9 by the template 'for every input the law returns true; each argument reads behind the call as it read before'; 0 by the template 'total and deterministic' (their statements: YtfbobfejnbhjbaaDoorTotals.lean).
  GIVEN WITH THE SEED: the statements are not yours to turn. If you find one false, say at which input.
  Laid BY PROGRAM, IN A SANDBOX (cutbox-rows.mjs): the forced cells as the released guide's own fill.sh prints them over the translation 763ac1613515c84e… (all of the seat's roots in one cut). By AI agents, Wed Nov 11 2026. No macro, syntax, notation, axiom, sorry.
-/
import Derived.Test.YtfbobfejnbhjbaaDoorChecked
import GoSem.Claim
import GoSem.ClaimJoined
import GoSem.ClaimMapViews
import Derived.JoinedTies
import Derived.KernelRfl
namespace Go.Proofs.YtfbobfejnbhjbaaDoor
/- THE CELL 'sum', in the pinned program and in every row, IS THE sha256 OF THE DUMP (.gsa) THAT YtfbobfejnbhjbaaDoorProg.lean LOADS. Nothing in Lean hashes anything: it is a label: what it is worth is what the hold of that sum in a sandbox is worth. -/
noncomputable def Tryd.pinned : Pinned := { name := "ytfbobfejnbhjbaadoor", sum := "763ac1613515c84eb3782619151b47a85270eed385328d92a38fe19d5f7a7a84", checked := Tryd.checked }
namespace Rows
def none {H : Type} : Left H := { results := [], args := [] }

/- WHAT THE LISTED PACKAGE-LEVEL VARIABLES READ AS WHEN THE CALL BEGINS. Each datum BY PROGRAM (the guide's laid-datum.mjs) off the statement by which the dump's own 'gosem.cut.vars' lays the variable. In a bare row this is a premise. The card (YtfbobfejnbhjbaaDoorCards.lean) ties it to the program's text. -/
def laid_math_bits_deBruijn32tab {H : Type} : DataW H := .agg [.lit (.int .u8 0), .lit (.int .u8 1), .lit (.int .u8 28), .lit (.int .u8 2), .lit (.int .u8 29), .lit (.int .u8 14), .lit (.int .u8 24), .lit (.int .u8 3), .lit (.int .u8 30), .lit (.int .u8 22), .lit (.int .u8 20), .lit (.int .u8 15), .lit (.int .u8 25), .lit (.int .u8 17), .lit (.int .u8 4), .lit (.int .u8 8), .lit (.int .u8 31), .lit (.int .u8 27), .lit (.int .u8 13), .lit (.int .u8 23), .lit (.int .u8 21), .lit (.int .u8 19), .lit (.int .u8 16), .lit (.int .u8 7), .lit (.int .u8 26), .lit (.int .u8 12), .lit (.int .u8 18), .lit (.int .u8 6), .lit (.int .u8 11), .lit (.int .u8 5), .lit (.int .u8 10), .lit (.int .u8 9)]
def laid_math_bits_deBruijn64tab {H : Type} : DataW H := .agg [.lit (.int .u8 0), .lit (.int .u8 1), .lit (.int .u8 56), .lit (.int .u8 2), .lit (.int .u8 57), .lit (.int .u8 49), .lit (.int .u8 28), .lit (.int .u8 3), .lit (.int .u8 61), .lit (.int .u8 58), .lit (.int .u8 42), .lit (.int .u8 50), .lit (.int .u8 38), .lit (.int .u8 29), .lit (.int .u8 17), .lit (.int .u8 4), .lit (.int .u8 62), .lit (.int .u8 47), .lit (.int .u8 59), .lit (.int .u8 36), .lit (.int .u8 45), .lit (.int .u8 43), .lit (.int .u8 51), .lit (.int .u8 22), .lit (.int .u8 53), .lit (.int .u8 39), .lit (.int .u8 33), .lit (.int .u8 30), .lit (.int .u8 24), .lit (.int .u8 18), .lit (.int .u8 12), .lit (.int .u8 5), .lit (.int .u8 63), .lit (.int .u8 55), .lit (.int .u8 48), .lit (.int .u8 27), .lit (.int .u8 60), .lit (.int .u8 41), .lit (.int .u8 37), .lit (.int .u8 16), .lit (.int .u8 46), .lit (.int .u8 35), .lit (.int .u8 44), .lit (.int .u8 21), .lit (.int .u8 52), .lit (.int .u8 32), .lit (.int .u8 23), .lit (.int .u8 11), .lit (.int .u8 54), .lit (.int .u8 26), .lit (.int .u8 40), .lit (.int .u8 15), .lit (.int .u8 34), .lit (.int .u8 20), .lit (.int .u8 31), .lit (.int .u8 10), .lit (.int .u8 25), .lit (.int .u8 14), .lit (.int .u8 19), .lit (.int .u8 9), .lit (.int .u8 13), .lit (.int .u8 8), .lit (.int .u8 7), .lit (.int .u8 6)]
def laid_internal_strconv_uint64pow10 {H : Type} : DataW H := .agg [.lit (.int .u64 1), .lit (.int .u64 10), .lit (.int .u64 100), .lit (.int .u64 1000), .lit (.int .u64 10000), .lit (.int .u64 100000), .lit (.int .u64 1000000), .lit (.int .u64 10000000), .lit (.int .u64 100000000), .lit (.int .u64 1000000000), .lit (.int .u64 10000000000), .lit (.int .u64 100000000000), .lit (.int .u64 1000000000000), .lit (.int .u64 10000000000000), .lit (.int .u64 100000000000000), .lit (.int .u64 1000000000000000), .lit (.int .u64 10000000000000000), .lit (.int .u64 100000000000000000), .lit (.int .u64 1000000000000000000), .lit (.int .u64 10000000000000000000)]

/-- 'transitlaw17.TripChecks': WHATEVER THE INPUT: true; the input reads as it did. -/
def tripChecksSpec : ChangeSpec := { name := "tripChecks", fn := fun _ => fun
  | [d1, d2] => { results := [.lit (.bool true)], args := [d1, d2] }
  | _ => none }
def tripChecksRow : OpenClaim := { program := "ytfbobfejnbhjbaadoor", sum := "763ac1613515c84eb3782619151b47a85270eed385328d92a38fe19d5f7a7a84", func := "transit/transitlaw17.TripChecks", spec := "tripChecks", named := ["internal/strconv.uint64pow10", "math/bits.deBruijn32tab", "math/bits.deBruijn64tab"], apart := false, laid := [("math/bits.deBruijn32tab", laid_math_bits_deBruijn32tab), ("math/bits.deBruijn64tab", laid_math_bits_deBruijn64tab), ("internal/strconv.uint64pow10", laid_internal_strconv_uint64pow10)] }
def TripChecksSaid : Prop := tripChecksRow.holds Tryd.pinned (OpenSpec.ofChange tripChecksSpec)

/-- ITS FALSE NEIGHBOUR: 'it returns false'. Refute it at one input. -/
def tripChecksWrong : ChangeSpec := { name := "tripChecks", fn := fun _ => fun
  | [d1, d2] => { results := [.lit (.bool false)], args := [d1, d2] }
  | _ => none }
def TripChecksWrongFalsely : Prop := tripChecksRow.holds Tryd.pinned (OpenSpec.ofChange tripChecksWrong)

/-- 'transitlaw17.TripFinds': WHATEVER THE INPUT: true; the input reads as it did. -/
def tripFindsSpec : ChangeSpec := { name := "tripFinds", fn := fun _ => fun
  | [d1, d2] => { results := [.lit (.bool true)], args := [d1, d2] }
  | _ => none }
def tripFindsRow : OpenClaim := { program := "ytfbobfejnbhjbaadoor", sum := "763ac1613515c84eb3782619151b47a85270eed385328d92a38fe19d5f7a7a84", func := "transit/transitlaw17.TripFinds", spec := "tripFinds", named := ["internal/strconv.uint64pow10", "math/bits.deBruijn32tab", "math/bits.deBruijn64tab"], apart := false, laid := [("math/bits.deBruijn32tab", laid_math_bits_deBruijn32tab), ("math/bits.deBruijn64tab", laid_math_bits_deBruijn64tab), ("internal/strconv.uint64pow10", laid_internal_strconv_uint64pow10)] }
def TripFindsSaid : Prop := tripFindsRow.holds Tryd.pinned (OpenSpec.ofChange tripFindsSpec)

/-- ITS FALSE NEIGHBOUR: 'it returns false'. Refute it at one input. -/
def tripFindsWrong : ChangeSpec := { name := "tripFinds", fn := fun _ => fun
  | [d1, d2] => { results := [.lit (.bool false)], args := [d1, d2] }
  | _ => none }
def TripFindsWrongFalsely : Prop := tripFindsRow.holds Tryd.pinned (OpenSpec.ofChange tripFindsWrong)

/-- 'transitlaw17.TripPatterns': WHATEVER THE INPUT: true; the input reads as it did. -/
def tripPatternsSpec : ChangeSpec := { name := "tripPatterns", fn := fun _ => fun
  | [d1, d2] => { results := [.lit (.bool true)], args := [d1, d2] }
  | _ => none }
def tripPatternsRow : OpenClaim := { program := "ytfbobfejnbhjbaadoor", sum := "763ac1613515c84eb3782619151b47a85270eed385328d92a38fe19d5f7a7a84", func := "transit/transitlaw17.TripPatterns", spec := "tripPatterns", named := ["internal/strconv.uint64pow10", "math/bits.deBruijn32tab", "math/bits.deBruijn64tab"], apart := false, laid := [("math/bits.deBruijn32tab", laid_math_bits_deBruijn32tab), ("math/bits.deBruijn64tab", laid_math_bits_deBruijn64tab), ("internal/strconv.uint64pow10", laid_internal_strconv_uint64pow10)] }
def TripPatternsSaid : Prop := tripPatternsRow.holds Tryd.pinned (OpenSpec.ofChange tripPatternsSpec)

/-- ITS FALSE NEIGHBOUR: 'it returns false'. Refute it at one input. -/
def tripPatternsWrong : ChangeSpec := { name := "tripPatterns", fn := fun _ => fun
  | [d1, d2] => { results := [.lit (.bool false)], args := [d1, d2] }
  | _ => none }
def TripPatternsWrongFalsely : Prop := tripPatternsRow.holds Tryd.pinned (OpenSpec.ofChange tripPatternsWrong)

/-- 'transitlaw17.TripGroups': WHATEVER THE INPUT: true; the input reads as it did. -/
def tripGroupsSpec : ChangeSpec := { name := "tripGroups", fn := fun _ => fun
  | [d] => { results := [.lit (.bool true)], args := [d] }
  | _ => none }
def tripGroupsRow : OpenClaim := { program := "ytfbobfejnbhjbaadoor", sum := "763ac1613515c84eb3782619151b47a85270eed385328d92a38fe19d5f7a7a84", func := "transit/transitlaw17.TripGroups", spec := "tripGroups", named := ["internal/strconv.uint64pow10", "math/bits.deBruijn32tab", "math/bits.deBruijn64tab"], apart := false, laid := [("math/bits.deBruijn32tab", laid_math_bits_deBruijn32tab), ("math/bits.deBruijn64tab", laid_math_bits_deBruijn64tab), ("internal/strconv.uint64pow10", laid_internal_strconv_uint64pow10)] }
def TripGroupsSaid : Prop := tripGroupsRow.holds Tryd.pinned (OpenSpec.ofChange tripGroupsSpec)

/-- ITS FALSE NEIGHBOUR: 'it returns false'. Refute it at one input. -/
def tripGroupsWrong : ChangeSpec := { name := "tripGroups", fn := fun _ => fun
  | [d] => { results := [.lit (.bool false)], args := [d] }
  | _ => none }
def TripGroupsWrongFalsely : Prop := tripGroupsRow.holds Tryd.pinned (OpenSpec.ofChange tripGroupsWrong)

/-- 'transitlaw17.TripOvertakes': WHATEVER THE INPUT: true; the input reads as it did. -/
def tripOvertakesSpec : ChangeSpec := { name := "tripOvertakes", fn := fun _ => fun
  | [d1, d2] => { results := [.lit (.bool true)], args := [d1, d2] }
  | _ => none }
def tripOvertakesRow : OpenClaim := { program := "ytfbobfejnbhjbaadoor", sum := "763ac1613515c84eb3782619151b47a85270eed385328d92a38fe19d5f7a7a84", func := "transit/transitlaw17.TripOvertakes", spec := "tripOvertakes", named := ["internal/strconv.uint64pow10", "math/bits.deBruijn32tab", "math/bits.deBruijn64tab"], apart := false, laid := [("math/bits.deBruijn32tab", laid_math_bits_deBruijn32tab), ("math/bits.deBruijn64tab", laid_math_bits_deBruijn64tab), ("internal/strconv.uint64pow10", laid_internal_strconv_uint64pow10)] }
def TripOvertakesSaid : Prop := tripOvertakesRow.holds Tryd.pinned (OpenSpec.ofChange tripOvertakesSpec)

/-- ITS FALSE NEIGHBOUR: 'it returns false'. Refute it at one input. -/
def tripOvertakesWrong : ChangeSpec := { name := "tripOvertakes", fn := fun _ => fun
  | [d1, d2] => { results := [.lit (.bool false)], args := [d1, d2] }
  | _ => none }
def TripOvertakesWrongFalsely : Prop := tripOvertakesRow.holds Tryd.pinned (OpenSpec.ofChange tripOvertakesWrong)

/-- 'transitlaw17.TripConnects': WHATEVER THE INPUT: true; the input reads as it did. -/
def tripConnectsSpec : ChangeSpec := { name := "tripConnects", fn := fun _ => fun
  | [d1, d2, d3] => { results := [.lit (.bool true)], args := [d1, d2, d3] }
  | _ => none }
def tripConnectsRow : OpenClaim := { program := "ytfbobfejnbhjbaadoor", sum := "763ac1613515c84eb3782619151b47a85270eed385328d92a38fe19d5f7a7a84", func := "transit/transitlaw17.TripConnects", spec := "tripConnects", named := ["internal/strconv.uint64pow10", "math/bits.deBruijn32tab", "math/bits.deBruijn64tab"], apart := false, laid := [("math/bits.deBruijn32tab", laid_math_bits_deBruijn32tab), ("math/bits.deBruijn64tab", laid_math_bits_deBruijn64tab), ("internal/strconv.uint64pow10", laid_internal_strconv_uint64pow10)] }
def TripConnectsSaid : Prop := tripConnectsRow.holds Tryd.pinned (OpenSpec.ofChange tripConnectsSpec)

/-- ITS FALSE NEIGHBOUR: 'it returns false'. Refute it at one input. -/
def tripConnectsWrong : ChangeSpec := { name := "tripConnects", fn := fun _ => fun
  | [d1, d2, d3] => { results := [.lit (.bool false)], args := [d1, d2, d3] }
  | _ => none }
def TripConnectsWrongFalsely : Prop := tripConnectsRow.holds Tryd.pinned (OpenSpec.ofChange tripConnectsWrong)

/-- 'transitlaw17.TripPartition': WHATEVER THE INPUT: true; the input reads as it did. -/
def tripPartitionSpec : ChangeSpec := { name := "tripPartition", fn := fun _ => fun
  | [d1, d2, d3] => { results := [.lit (.bool true)], args := [d1, d2, d3] }
  | _ => none }
def tripPartitionRow : OpenClaim := { program := "ytfbobfejnbhjbaadoor", sum := "763ac1613515c84eb3782619151b47a85270eed385328d92a38fe19d5f7a7a84", func := "transit/transitlaw17.TripPartition", spec := "tripPartition", named := ["internal/strconv.uint64pow10", "math/bits.deBruijn32tab", "math/bits.deBruijn64tab"], apart := false, laid := [("math/bits.deBruijn32tab", laid_math_bits_deBruijn32tab), ("math/bits.deBruijn64tab", laid_math_bits_deBruijn64tab), ("internal/strconv.uint64pow10", laid_internal_strconv_uint64pow10)] }
def TripPartitionSaid : Prop := tripPartitionRow.holds Tryd.pinned (OpenSpec.ofChange tripPartitionSpec)

/-- ITS FALSE NEIGHBOUR: 'it returns false'. Refute it at one input. -/
def tripPartitionWrong : ChangeSpec := { name := "tripPartition", fn := fun _ => fun
  | [d1, d2, d3] => { results := [.lit (.bool false)], args := [d1, d2, d3] }
  | _ => none }
def TripPartitionWrongFalsely : Prop := tripPartitionRow.holds Tryd.pinned (OpenSpec.ofChange tripPartitionWrong)

/-- 'transitlaw17.TripFollows': WHATEVER THE INPUT: true; the input reads as it did. -/
def tripFollowsSpec : ChangeSpec := { name := "tripFollows", fn := fun _ => fun
  | [d1, d2] => { results := [.lit (.bool true)], args := [d1, d2] }
  | _ => none }
def tripFollowsRow : OpenClaim := { program := "ytfbobfejnbhjbaadoor", sum := "763ac1613515c84eb3782619151b47a85270eed385328d92a38fe19d5f7a7a84", func := "transit/transitlaw17.TripFollows", spec := "tripFollows", named := ["internal/strconv.uint64pow10", "math/bits.deBruijn32tab", "math/bits.deBruijn64tab"], apart := false, laid := [("math/bits.deBruijn32tab", laid_math_bits_deBruijn32tab), ("math/bits.deBruijn64tab", laid_math_bits_deBruijn64tab), ("internal/strconv.uint64pow10", laid_internal_strconv_uint64pow10)] }
def TripFollowsSaid : Prop := tripFollowsRow.holds Tryd.pinned (OpenSpec.ofChange tripFollowsSpec)

/-- ITS FALSE NEIGHBOUR: 'it returns false'. Refute it at one input. -/
def tripFollowsWrong : ChangeSpec := { name := "tripFollows", fn := fun _ => fun
  | [d1, d2] => { results := [.lit (.bool false)], args := [d1, d2] }
  | _ => none }
def TripFollowsWrongFalsely : Prop := tripFollowsRow.holds Tryd.pinned (OpenSpec.ofChange tripFollowsWrong)

/-- 'transitlaw17.TripPasses': WHATEVER THE INPUT: true; the input reads as it did. -/
def tripPassesSpec : ChangeSpec := { name := "tripPasses", fn := fun _ => fun
  | [d1, d2, d3] => { results := [.lit (.bool true)], args := [d1, d2, d3] }
  | _ => none }
def tripPassesRow : OpenClaim := { program := "ytfbobfejnbhjbaadoor", sum := "763ac1613515c84eb3782619151b47a85270eed385328d92a38fe19d5f7a7a84", func := "transit/transitlaw17.TripPasses", spec := "tripPasses", named := ["internal/strconv.uint64pow10", "math/bits.deBruijn32tab", "math/bits.deBruijn64tab"], apart := false, laid := [("math/bits.deBruijn32tab", laid_math_bits_deBruijn32tab), ("math/bits.deBruijn64tab", laid_math_bits_deBruijn64tab), ("internal/strconv.uint64pow10", laid_internal_strconv_uint64pow10)] }
def TripPassesSaid : Prop := tripPassesRow.holds Tryd.pinned (OpenSpec.ofChange tripPassesSpec)

/-- ITS FALSE NEIGHBOUR: 'it returns false'. Refute it at one input. -/
def tripPassesWrong : ChangeSpec := { name := "tripPasses", fn := fun _ => fun
  | [d1, d2, d3] => { results := [.lit (.bool false)], args := [d1, d2, d3] }
  | _ => none }
def TripPassesWrongFalsely : Prop := tripPassesRow.holds Tryd.pinned (OpenSpec.ofChange tripPassesWrong)

/- THE SECOND FORM. 'bulk': how many values and letters a reading holds, each counted each time it is reached (what is shared counts as often as it is met; a slice's spare places count too). A statement '..UptoSaid' is the law's where the arguments, and the package variables that the reading takes, are together of bulk at most 1048576: NARROWER than '..Said'. Prove '..Said' where nothing that the law and all that it calls make is longer than what came in: it says more and counts as full. Else prove '..UptoSaid'. A law counts once. -/
mutual
def uptoBulk {H : Type} : DataW H → Nat
  | .lit (.string bytes) => bytes.length + 1
  | .lit _ => 1
  | .nil => 1
  | .ptr d => uptoBulk d + 1
  | .slice elems spare => uptoBulkAll elems + uptoBulkAll spare + 1
  | .agg parts => uptoBulkAll parts + 1
  | .iface _ d => uptoBulk d + 1
  | .map entries => uptoBulkEntries entries + 1
  | .held _ => 1
def uptoBulkAll {H : Type} : List (DataW H) → Nat
  | [] => 0
  | d :: r => uptoBulk d + uptoBulkAll r
def uptoBulkEntries {H : Type} : List (Lit × DataW H) → Nat
  | [] => 0
  | x :: r => uptoBulkEntry x + uptoBulkEntries r
def uptoBulkEntry {H : Type} : Lit × DataW H → Nat
  | (.string bytes, d) => bytes.length + uptoBulk d + 1
  | (_, d) => uptoBulk d + 1
 end
def uptoSmall : (H : Type) → List (DataW H) → Bool := fun _ ds => decide (uptoBulkAll ds ≤ 1048576)
def OpenSpec.upto (s : _root_.Go.ChangeSpec) : _root_.Go.OpenSpec := { _root_.Go.OpenSpec.ofChange s with cond := some uptoSmall }

/-- 'transitlaw17.TripChecks', WHERE WHAT IT READS IS OF BULK AT MOST 1048576: true; the input reads as it did. -/
def tripChecksUptoRow : OpenClaim := { program := "ytfbobfejnbhjbaadoor", sum := "763ac1613515c84eb3782619151b47a85270eed385328d92a38fe19d5f7a7a84", func := "transit/transitlaw17.TripChecks", spec := "tripChecks", named := ["internal/strconv.uint64pow10", "math/bits.deBruijn32tab", "math/bits.deBruijn64tab"], apart := false, laid := [("math/bits.deBruijn32tab", laid_math_bits_deBruijn32tab), ("math/bits.deBruijn64tab", laid_math_bits_deBruijn64tab), ("internal/strconv.uint64pow10", laid_internal_strconv_uint64pow10)], narrowed := true }
def TripChecksUptoSaid : Prop := tripChecksUptoRow.holds Tryd.pinned (OpenSpec.upto tripChecksSpec)

/-- 'transitlaw17.TripFinds', WHERE WHAT IT READS IS OF BULK AT MOST 1048576: true; the input reads as it did. -/
def tripFindsUptoRow : OpenClaim := { program := "ytfbobfejnbhjbaadoor", sum := "763ac1613515c84eb3782619151b47a85270eed385328d92a38fe19d5f7a7a84", func := "transit/transitlaw17.TripFinds", spec := "tripFinds", named := ["internal/strconv.uint64pow10", "math/bits.deBruijn32tab", "math/bits.deBruijn64tab"], apart := false, laid := [("math/bits.deBruijn32tab", laid_math_bits_deBruijn32tab), ("math/bits.deBruijn64tab", laid_math_bits_deBruijn64tab), ("internal/strconv.uint64pow10", laid_internal_strconv_uint64pow10)], narrowed := true }
def TripFindsUptoSaid : Prop := tripFindsUptoRow.holds Tryd.pinned (OpenSpec.upto tripFindsSpec)

/-- 'transitlaw17.TripPatterns', WHERE WHAT IT READS IS OF BULK AT MOST 1048576: true; the input reads as it did. -/
def tripPatternsUptoRow : OpenClaim := { program := "ytfbobfejnbhjbaadoor", sum := "763ac1613515c84eb3782619151b47a85270eed385328d92a38fe19d5f7a7a84", func := "transit/transitlaw17.TripPatterns", spec := "tripPatterns", named := ["internal/strconv.uint64pow10", "math/bits.deBruijn32tab", "math/bits.deBruijn64tab"], apart := false, laid := [("math/bits.deBruijn32tab", laid_math_bits_deBruijn32tab), ("math/bits.deBruijn64tab", laid_math_bits_deBruijn64tab), ("internal/strconv.uint64pow10", laid_internal_strconv_uint64pow10)], narrowed := true }
def TripPatternsUptoSaid : Prop := tripPatternsUptoRow.holds Tryd.pinned (OpenSpec.upto tripPatternsSpec)

/-- 'transitlaw17.TripGroups', WHERE WHAT IT READS IS OF BULK AT MOST 1048576: true; the input reads as it did. -/
def tripGroupsUptoRow : OpenClaim := { program := "ytfbobfejnbhjbaadoor", sum := "763ac1613515c84eb3782619151b47a85270eed385328d92a38fe19d5f7a7a84", func := "transit/transitlaw17.TripGroups", spec := "tripGroups", named := ["internal/strconv.uint64pow10", "math/bits.deBruijn32tab", "math/bits.deBruijn64tab"], apart := false, laid := [("math/bits.deBruijn32tab", laid_math_bits_deBruijn32tab), ("math/bits.deBruijn64tab", laid_math_bits_deBruijn64tab), ("internal/strconv.uint64pow10", laid_internal_strconv_uint64pow10)], narrowed := true }
def TripGroupsUptoSaid : Prop := tripGroupsUptoRow.holds Tryd.pinned (OpenSpec.upto tripGroupsSpec)

/-- 'transitlaw17.TripOvertakes', WHERE WHAT IT READS IS OF BULK AT MOST 1048576: true; the input reads as it did. -/
def tripOvertakesUptoRow : OpenClaim := { program := "ytfbobfejnbhjbaadoor", sum := "763ac1613515c84eb3782619151b47a85270eed385328d92a38fe19d5f7a7a84", func := "transit/transitlaw17.TripOvertakes", spec := "tripOvertakes", named := ["internal/strconv.uint64pow10", "math/bits.deBruijn32tab", "math/bits.deBruijn64tab"], apart := false, laid := [("math/bits.deBruijn32tab", laid_math_bits_deBruijn32tab), ("math/bits.deBruijn64tab", laid_math_bits_deBruijn64tab), ("internal/strconv.uint64pow10", laid_internal_strconv_uint64pow10)], narrowed := true }
def TripOvertakesUptoSaid : Prop := tripOvertakesUptoRow.holds Tryd.pinned (OpenSpec.upto tripOvertakesSpec)

/-- 'transitlaw17.TripConnects', WHERE WHAT IT READS IS OF BULK AT MOST 1048576: true; the input reads as it did. -/
def tripConnectsUptoRow : OpenClaim := { program := "ytfbobfejnbhjbaadoor", sum := "763ac1613515c84eb3782619151b47a85270eed385328d92a38fe19d5f7a7a84", func := "transit/transitlaw17.TripConnects", spec := "tripConnects", named := ["internal/strconv.uint64pow10", "math/bits.deBruijn32tab", "math/bits.deBruijn64tab"], apart := false, laid := [("math/bits.deBruijn32tab", laid_math_bits_deBruijn32tab), ("math/bits.deBruijn64tab", laid_math_bits_deBruijn64tab), ("internal/strconv.uint64pow10", laid_internal_strconv_uint64pow10)], narrowed := true }
def TripConnectsUptoSaid : Prop := tripConnectsUptoRow.holds Tryd.pinned (OpenSpec.upto tripConnectsSpec)

/-- 'transitlaw17.TripPartition', WHERE WHAT IT READS IS OF BULK AT MOST 1048576: true; the input reads as it did. -/
def tripPartitionUptoRow : OpenClaim := { program := "ytfbobfejnbhjbaadoor", sum := "763ac1613515c84eb3782619151b47a85270eed385328d92a38fe19d5f7a7a84", func := "transit/transitlaw17.TripPartition", spec := "tripPartition", named := ["internal/strconv.uint64pow10", "math/bits.deBruijn32tab", "math/bits.deBruijn64tab"], apart := false, laid := [("math/bits.deBruijn32tab", laid_math_bits_deBruijn32tab), ("math/bits.deBruijn64tab", laid_math_bits_deBruijn64tab), ("internal/strconv.uint64pow10", laid_internal_strconv_uint64pow10)], narrowed := true }
def TripPartitionUptoSaid : Prop := tripPartitionUptoRow.holds Tryd.pinned (OpenSpec.upto tripPartitionSpec)

/-- 'transitlaw17.TripFollows', WHERE WHAT IT READS IS OF BULK AT MOST 1048576: true; the input reads as it did. -/
def tripFollowsUptoRow : OpenClaim := { program := "ytfbobfejnbhjbaadoor", sum := "763ac1613515c84eb3782619151b47a85270eed385328d92a38fe19d5f7a7a84", func := "transit/transitlaw17.TripFollows", spec := "tripFollows", named := ["internal/strconv.uint64pow10", "math/bits.deBruijn32tab", "math/bits.deBruijn64tab"], apart := false, laid := [("math/bits.deBruijn32tab", laid_math_bits_deBruijn32tab), ("math/bits.deBruijn64tab", laid_math_bits_deBruijn64tab), ("internal/strconv.uint64pow10", laid_internal_strconv_uint64pow10)], narrowed := true }
def TripFollowsUptoSaid : Prop := tripFollowsUptoRow.holds Tryd.pinned (OpenSpec.upto tripFollowsSpec)

/-- 'transitlaw17.TripPasses', WHERE WHAT IT READS IS OF BULK AT MOST 1048576: true; the input reads as it did. -/
def tripPassesUptoRow : OpenClaim := { program := "ytfbobfejnbhjbaadoor", sum := "763ac1613515c84eb3782619151b47a85270eed385328d92a38fe19d5f7a7a84", func := "transit/transitlaw17.TripPasses", spec := "tripPasses", named := ["internal/strconv.uint64pow10", "math/bits.deBruijn32tab", "math/bits.deBruijn64tab"], apart := false, laid := [("math/bits.deBruijn32tab", laid_math_bits_deBruijn32tab), ("math/bits.deBruijn64tab", laid_math_bits_deBruijn64tab), ("internal/strconv.uint64pow10", laid_internal_strconv_uint64pow10)], narrowed := true }
def TripPassesUptoSaid : Prop := tripPassesUptoRow.holds Tryd.pinned (OpenSpec.upto tripPassesSpec)

end Rows
end Go.Proofs.YtfbobfejnbhjbaaDoor
