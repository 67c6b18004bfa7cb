/-
  NARROWER THAN 'FOR EVERY INPUT', by the rows' own cells (each row's printed sentence says how): RouteChecks: laid · RouteNames: laid · RouteSelects: laid · RouteTexts: laid · RouteModes: laid.
  DERIVED. THE GIVEN ROWS OF THIS SEAT. 5 by the template 'for every input the law returns true; each argument reads behind the call as it read before'; 0 by the template 'total and deterministic' (their statements: YtlpemdhjbpekaaaDoorTotals.lean).
  GIVEN WITH THE SEED: the statements are not yours to turn. If you find one false, say at which input.
  Laid BY PROGRAM, IN A SANDBOX (cutbox-rows.mjs): the forced cells as the released guide's own fill.sh prints them over the translation 7866d2ea5d9d2c6b… (all of the seat's roots in one cut). By AI agents, Wed Nov 11 2026. No macro, syntax, notation, axiom, sorry.
-/
import Derived.Test.YtlpemdhjbpekaaaDoorChecked
import GoSem.Claim
import GoSem.ClaimJoined
import GoSem.ClaimMapViews
import Derived.JoinedTies
import Derived.KernelRfl
namespace Go.Proofs.YtlpemdhjbpekaaaDoor
/- THE CELL 'sum', in the pinned program and in every row, IS THE sha256 OF THE DUMP (.gsa) THAT YtlpemdhjbpekaaaDoorProg.lean LOADS. Nothing in Lean hashes anything: it is a label: what it is worth is what the hold of that sum in a sandbox is worth. -/
noncomputable def Tryd.pinned : Pinned := { name := "ytlpemdhjbpekaaadoor", sum := "7866d2ea5d9d2c6bfaeb554b111ea0f251e134f8b401e854859c90f8ea3c7211", checked := Tryd.checked }
namespace Rows
def none {H : Type} : Left H := { results := [], args := [] }

/- WHAT THE LISTED PACKAGE-LEVEL VARIABLES READ AS WHEN THE CALL BEGINS. Each datum BY PROGRAM (the guide's laid-datum.mjs) off the statement by which the dump's own 'gosem.cut.vars' lays the variable. In a bare row this is a premise. The card (YtlpemdhjbpekaaaDoorCards.lean) ties it to the program's text. -/
def laid_math_bits_deBruijn64tab {H : Type} : DataW H := .agg [.lit (.int .u8 0), .lit (.int .u8 1), .lit (.int .u8 56), .lit (.int .u8 2), .lit (.int .u8 57), .lit (.int .u8 49), .lit (.int .u8 28), .lit (.int .u8 3), .lit (.int .u8 61), .lit (.int .u8 58), .lit (.int .u8 42), .lit (.int .u8 50), .lit (.int .u8 38), .lit (.int .u8 29), .lit (.int .u8 17), .lit (.int .u8 4), .lit (.int .u8 62), .lit (.int .u8 47), .lit (.int .u8 59), .lit (.int .u8 36), .lit (.int .u8 45), .lit (.int .u8 43), .lit (.int .u8 51), .lit (.int .u8 22), .lit (.int .u8 53), .lit (.int .u8 39), .lit (.int .u8 33), .lit (.int .u8 30), .lit (.int .u8 24), .lit (.int .u8 18), .lit (.int .u8 12), .lit (.int .u8 5), .lit (.int .u8 63), .lit (.int .u8 55), .lit (.int .u8 48), .lit (.int .u8 27), .lit (.int .u8 60), .lit (.int .u8 41), .lit (.int .u8 37), .lit (.int .u8 16), .lit (.int .u8 46), .lit (.int .u8 35), .lit (.int .u8 44), .lit (.int .u8 21), .lit (.int .u8 52), .lit (.int .u8 32), .lit (.int .u8 23), .lit (.int .u8 11), .lit (.int .u8 54), .lit (.int .u8 26), .lit (.int .u8 40), .lit (.int .u8 15), .lit (.int .u8 34), .lit (.int .u8 20), .lit (.int .u8 31), .lit (.int .u8 10), .lit (.int .u8 25), .lit (.int .u8 14), .lit (.int .u8 19), .lit (.int .u8 9), .lit (.int .u8 13), .lit (.int .u8 8), .lit (.int .u8 7), .lit (.int .u8 6)]
def laid_transit_route_names {H : Type} : DataW H := .agg [.lit (.string [98, 117, 115]), .lit (.string [116, 114, 97, 109]), .lit (.string [109, 101, 116, 114, 111]), .lit (.string [114, 97, 105, 108]), .lit (.string [102, 101, 114, 114, 121]), .lit (.string [99, 111, 97, 99, 104]), .lit (.string [99, 97, 98, 108, 101]), .lit (.string [102, 117, 110, 105, 99, 117, 108, 97, 114])]

/-- 'transitlaw15.RouteChecks': WHATEVER THE INPUT: true; the input reads as it did. -/
def routeChecksSpec : ChangeSpec := { name := "routeChecks", fn := fun _ => fun
  | [d1, d2] => { results := [.lit (.bool true)], args := [d1, d2] }
  | _ => none }
def routeChecksRow : OpenClaim := { program := "ytlpemdhjbpekaaadoor", sum := "7866d2ea5d9d2c6bfaeb554b111ea0f251e134f8b401e854859c90f8ea3c7211", func := "transit/transitlaw15.RouteChecks", spec := "routeChecks", inPlace := ["internal/abi.NoEscape", "internal/bytealg.MakeNoZero"], unfollowed := true, recurses := true, named := ["transit/route.names", "math/bits.deBruijn64tab"], apart := false, laid := [("math/bits.deBruijn64tab", laid_math_bits_deBruijn64tab), ("transit/route.names", laid_transit_route_names)] }
def RouteChecksSaid : Prop := routeChecksRow.holds Tryd.pinned (OpenSpec.ofChange routeChecksSpec)

/-- ITS FALSE NEIGHBOUR: 'it returns false'. Refute it at one input. -/
def routeChecksWrong : ChangeSpec := { name := "routeChecks", fn := fun _ => fun
  | [d1, d2] => { results := [.lit (.bool false)], args := [d1, d2] }
  | _ => none }
def RouteChecksWrongFalsely : Prop := routeChecksRow.holds Tryd.pinned (OpenSpec.ofChange routeChecksWrong)

/-- 'transitlaw15.RouteNames': WHATEVER THE INPUT: true; the input reads as it did. -/
def routeNamesSpec : ChangeSpec := { name := "routeNames", fn := fun _ => fun
  | [d1, d2] => { results := [.lit (.bool true)], args := [d1, d2] }
  | _ => none }
def routeNamesRow : OpenClaim := { program := "ytlpemdhjbpekaaadoor", sum := "7866d2ea5d9d2c6bfaeb554b111ea0f251e134f8b401e854859c90f8ea3c7211", func := "transit/transitlaw15.RouteNames", spec := "routeNames", inPlace := ["internal/abi.NoEscape", "internal/bytealg.MakeNoZero"], unfollowed := true, recurses := true, named := ["transit/route.names", "math/bits.deBruijn64tab"], apart := false, laid := [("math/bits.deBruijn64tab", laid_math_bits_deBruijn64tab), ("transit/route.names", laid_transit_route_names)] }
def RouteNamesSaid : Prop := routeNamesRow.holds Tryd.pinned (OpenSpec.ofChange routeNamesSpec)

/-- ITS FALSE NEIGHBOUR: 'it returns false'. Refute it at one input. -/
def routeNamesWrong : ChangeSpec := { name := "routeNames", fn := fun _ => fun
  | [d1, d2] => { results := [.lit (.bool false)], args := [d1, d2] }
  | _ => none }
def RouteNamesWrongFalsely : Prop := routeNamesRow.holds Tryd.pinned (OpenSpec.ofChange routeNamesWrong)

/-- 'transitlaw15.RouteSelects': WHATEVER THE INPUT: true; the input reads as it did. -/
def routeSelectsSpec : ChangeSpec := { name := "routeSelects", fn := fun _ => fun
  | [d1, d2] => { results := [.lit (.bool true)], args := [d1, d2] }
  | _ => none }
def routeSelectsRow : OpenClaim := { program := "ytlpemdhjbpekaaadoor", sum := "7866d2ea5d9d2c6bfaeb554b111ea0f251e134f8b401e854859c90f8ea3c7211", func := "transit/transitlaw15.RouteSelects", spec := "routeSelects", inPlace := ["internal/abi.NoEscape", "internal/bytealg.MakeNoZero"], unfollowed := true, recurses := true, named := ["transit/route.names", "math/bits.deBruijn64tab"], apart := false, laid := [("math/bits.deBruijn64tab", laid_math_bits_deBruijn64tab), ("transit/route.names", laid_transit_route_names)] }
def RouteSelectsSaid : Prop := routeSelectsRow.holds Tryd.pinned (OpenSpec.ofChange routeSelectsSpec)

/-- ITS FALSE NEIGHBOUR: 'it returns false'. Refute it at one input. -/
def routeSelectsWrong : ChangeSpec := { name := "routeSelects", fn := fun _ => fun
  | [d1, d2] => { results := [.lit (.bool false)], args := [d1, d2] }
  | _ => none }
def RouteSelectsWrongFalsely : Prop := routeSelectsRow.holds Tryd.pinned (OpenSpec.ofChange routeSelectsWrong)

/-- 'transitlaw15.RouteTexts': WHATEVER THE INPUT: true; the input reads as it did. -/
def routeTextsSpec : ChangeSpec := { name := "routeTexts", fn := fun _ => fun
  | [d1, d2] => { results := [.lit (.bool true)], args := [d1, d2] }
  | _ => none }
def routeTextsRow : OpenClaim := { program := "ytlpemdhjbpekaaadoor", sum := "7866d2ea5d9d2c6bfaeb554b111ea0f251e134f8b401e854859c90f8ea3c7211", func := "transit/transitlaw15.RouteTexts", spec := "routeTexts", inPlace := ["internal/abi.NoEscape", "internal/bytealg.MakeNoZero"], unfollowed := true, recurses := true, named := ["transit/route.names", "math/bits.deBruijn64tab"], apart := false, laid := [("math/bits.deBruijn64tab", laid_math_bits_deBruijn64tab), ("transit/route.names", laid_transit_route_names)] }
def RouteTextsSaid : Prop := routeTextsRow.holds Tryd.pinned (OpenSpec.ofChange routeTextsSpec)

/-- ITS FALSE NEIGHBOUR: 'it returns false'. Refute it at one input. -/
def routeTextsWrong : ChangeSpec := { name := "routeTexts", fn := fun _ => fun
  | [d1, d2] => { results := [.lit (.bool false)], args := [d1, d2] }
  | _ => none }
def RouteTextsWrongFalsely : Prop := routeTextsRow.holds Tryd.pinned (OpenSpec.ofChange routeTextsWrong)

/-- 'transitlaw15.RouteModes': WHATEVER THE INPUT: true; the input reads as it did. -/
def routeModesSpec : ChangeSpec := { name := "routeModes", fn := fun _ => fun
  | [d1, d2] => { results := [.lit (.bool true)], args := [d1, d2] }
  | _ => none }
def routeModesRow : OpenClaim := { program := "ytlpemdhjbpekaaadoor", sum := "7866d2ea5d9d2c6bfaeb554b111ea0f251e134f8b401e854859c90f8ea3c7211", func := "transit/transitlaw15.RouteModes", spec := "routeModes", inPlace := ["internal/abi.NoEscape", "internal/bytealg.MakeNoZero"], unfollowed := true, recurses := true, named := ["transit/route.names", "math/bits.deBruijn64tab"], apart := false, laid := [("math/bits.deBruijn64tab", laid_math_bits_deBruijn64tab), ("transit/route.names", laid_transit_route_names)] }
def RouteModesSaid : Prop := routeModesRow.holds Tryd.pinned (OpenSpec.ofChange routeModesSpec)

/-- ITS FALSE NEIGHBOUR: 'it returns false'. Refute it at one input. -/
def routeModesWrong : ChangeSpec := { name := "routeModes", fn := fun _ => fun
  | [d1, d2] => { results := [.lit (.bool false)], args := [d1, d2] }
  | _ => none }
def RouteModesWrongFalsely : Prop := routeModesRow.holds Tryd.pinned (OpenSpec.ofChange routeModesWrong)

/- THE SECOND FORM. 'bulk': how many values and letters a reading holds, each counted each time it is reached (what is shared counts as often as it is met; a slice's spare places count too). A statement '..UptoSaid' is the law's where the arguments, and the package variables that the reading takes, are together of bulk at most 1048576: NARROWER than '..Said'. Prove '..Said' where nothing that the law and all that it calls make is longer than what came in: it says more and counts as full. Else prove '..UptoSaid'. A law counts once. -/
mutual
def uptoBulk {H : Type} : DataW H → Nat
  | .lit (.string bytes) => bytes.length + 1
  | .lit _ => 1
  | .nil => 1
  | .ptr d => uptoBulk d + 1
  | .slice elems spare => uptoBulkAll elems + uptoBulkAll spare + 1
  | .agg parts => uptoBulkAll parts + 1
  | .iface _ d => uptoBulk d + 1
  | .map entries => uptoBulkEntries entries + 1
  | .held _ => 1
def uptoBulkAll {H : Type} : List (DataW H) → Nat
  | [] => 0
  | d :: r => uptoBulk d + uptoBulkAll r
def uptoBulkEntries {H : Type} : List (Lit × DataW H) → Nat
  | [] => 0
  | x :: r => uptoBulkEntry x + uptoBulkEntries r
def uptoBulkEntry {H : Type} : Lit × DataW H → Nat
  | (.string bytes, d) => bytes.length + uptoBulk d + 1
  | (_, d) => uptoBulk d + 1
 end
def uptoSmall : (H : Type) → List (DataW H) → Bool := fun _ ds => decide (uptoBulkAll ds ≤ 1048576)
def OpenSpec.upto (s : _root_.Go.ChangeSpec) : _root_.Go.OpenSpec := { _root_.Go.OpenSpec.ofChange s with cond := some uptoSmall }

/-- 'transitlaw15.RouteChecks', WHERE WHAT IT READS IS OF BULK AT MOST 1048576: true; the input reads as it did. -/
def routeChecksUptoRow : OpenClaim := { program := "ytlpemdhjbpekaaadoor", sum := "7866d2ea5d9d2c6bfaeb554b111ea0f251e134f8b401e854859c90f8ea3c7211", func := "transit/transitlaw15.RouteChecks", spec := "routeChecks", inPlace := ["internal/abi.NoEscape", "internal/bytealg.MakeNoZero"], unfollowed := true, recurses := true, named := ["transit/route.names", "math/bits.deBruijn64tab"], apart := false, laid := [("math/bits.deBruijn64tab", laid_math_bits_deBruijn64tab), ("transit/route.names", laid_transit_route_names)], narrowed := true }
def RouteChecksUptoSaid : Prop := routeChecksUptoRow.holds Tryd.pinned (OpenSpec.upto routeChecksSpec)

/-- 'transitlaw15.RouteNames', WHERE WHAT IT READS IS OF BULK AT MOST 1048576: true; the input reads as it did. -/
def routeNamesUptoRow : OpenClaim := { program := "ytlpemdhjbpekaaadoor", sum := "7866d2ea5d9d2c6bfaeb554b111ea0f251e134f8b401e854859c90f8ea3c7211", func := "transit/transitlaw15.RouteNames", spec := "routeNames", inPlace := ["internal/abi.NoEscape", "internal/bytealg.MakeNoZero"], unfollowed := true, recurses := true, named := ["transit/route.names", "math/bits.deBruijn64tab"], apart := false, laid := [("math/bits.deBruijn64tab", laid_math_bits_deBruijn64tab), ("transit/route.names", laid_transit_route_names)], narrowed := true }
def RouteNamesUptoSaid : Prop := routeNamesUptoRow.holds Tryd.pinned (OpenSpec.upto routeNamesSpec)

/-- 'transitlaw15.RouteSelects', WHERE WHAT IT READS IS OF BULK AT MOST 1048576: true; the input reads as it did. -/
def routeSelectsUptoRow : OpenClaim := { program := "ytlpemdhjbpekaaadoor", sum := "7866d2ea5d9d2c6bfaeb554b111ea0f251e134f8b401e854859c90f8ea3c7211", func := "transit/transitlaw15.RouteSelects", spec := "routeSelects", inPlace := ["internal/abi.NoEscape", "internal/bytealg.MakeNoZero"], unfollowed := true, recurses := true, named := ["transit/route.names", "math/bits.deBruijn64tab"], apart := false, laid := [("math/bits.deBruijn64tab", laid_math_bits_deBruijn64tab), ("transit/route.names", laid_transit_route_names)], narrowed := true }
def RouteSelectsUptoSaid : Prop := routeSelectsUptoRow.holds Tryd.pinned (OpenSpec.upto routeSelectsSpec)

/-- 'transitlaw15.RouteTexts', WHERE WHAT IT READS IS OF BULK AT MOST 1048576: true; the input reads as it did. -/
def routeTextsUptoRow : OpenClaim := { program := "ytlpemdhjbpekaaadoor", sum := "7866d2ea5d9d2c6bfaeb554b111ea0f251e134f8b401e854859c90f8ea3c7211", func := "transit/transitlaw15.RouteTexts", spec := "routeTexts", inPlace := ["internal/abi.NoEscape", "internal/bytealg.MakeNoZero"], unfollowed := true, recurses := true, named := ["transit/route.names", "math/bits.deBruijn64tab"], apart := false, laid := [("math/bits.deBruijn64tab", laid_math_bits_deBruijn64tab), ("transit/route.names", laid_transit_route_names)], narrowed := true }
def RouteTextsUptoSaid : Prop := routeTextsUptoRow.holds Tryd.pinned (OpenSpec.upto routeTextsSpec)

/-- 'transitlaw15.RouteModes', WHERE WHAT IT READS IS OF BULK AT MOST 1048576: true; the input reads as it did. -/
def routeModesUptoRow : OpenClaim := { program := "ytlpemdhjbpekaaadoor", sum := "7866d2ea5d9d2c6bfaeb554b111ea0f251e134f8b401e854859c90f8ea3c7211", func := "transit/transitlaw15.RouteModes", spec := "routeModes", inPlace := ["internal/abi.NoEscape", "internal/bytealg.MakeNoZero"], unfollowed := true, recurses := true, named := ["transit/route.names", "math/bits.deBruijn64tab"], apart := false, laid := [("math/bits.deBruijn64tab", laid_math_bits_deBruijn64tab), ("transit/route.names", laid_transit_route_names)], narrowed := true }
def RouteModesUptoSaid : Prop := routeModesUptoRow.holds Tryd.pinned (OpenSpec.upto routeModesSpec)

end Rows
end Go.Proofs.YtlpemdhjbpekaaaDoor
