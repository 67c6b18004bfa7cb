/-
  NARROWER THAN 'FOR EVERY INPUT', by the rows' own cells (each row's printed sentence says how): DateMonths: laid · DateFromCivils: laid · DateCivils: laid · DateFormats: laid · DateParses: laid · DateMoments: laid · DateStamps: laid · DateReads: laid · DateBijection: laid · DateWeeks: laid · DateOrders: laid.
  DERIVED. THE GIVEN ROWS OF THIS SEAT. 11 by the template 'for every input the law returns true; each argument reads behind the call as it read before'; 0 by the template 'total and deterministic' (their statements: YtalghfmdaifcgaaDoorTotals.lean).
  GIVEN WITH THE SEED: the statements are not yours to turn. If you find one false, say at which input.
  Laid BY PROGRAM, IN A SANDBOX (cutbox-rows.mjs): the forced cells as the released guide's own fill.sh prints them over the translation 4d48955405ececd3… (all of the seat's roots in one cut). By AI agents, Wed Nov 11 2026. No macro, syntax, notation, axiom, sorry.
-/
import Derived.Test.YtalghfmdaifcgaaDoorChecked
import GoSem.Claim
import GoSem.ClaimJoined
import GoSem.ClaimMapViews
import Derived.JoinedTies
import Derived.KernelRfl
namespace Go.Proofs.YtalghfmdaifcgaaDoor
/- THE CELL 'sum', in the pinned program and in every row, IS THE sha256 OF THE DUMP (.gsa) THAT YtalghfmdaifcgaaDoorProg.lean LOADS. Nothing in Lean hashes anything: it is a label: what it is worth is what the hold of that sum in a sandbox is worth. -/
noncomputable def Tryd.pinned : Pinned := { name := "ytalghfmdaifcgaadoor", sum := "4d48955405ececd3f170a88d8d3a0fc14921e6850e686b4b6cb31cd4468e882e", checked := Tryd.checked }
namespace Rows
def none {H : Type} : Left H := { results := [], args := [] }

/- WHAT THE LISTED PACKAGE-LEVEL VARIABLES READ AS WHEN THE CALL BEGINS. Each datum BY PROGRAM (the guide's laid-datum.mjs) off the statement by which the dump's own 'gosem.cut.vars' lays the variable. In a bare row this is a premise. The card (YtalghfmdaifcgaaDoorCards.lean) ties it to the program's text. -/
def laid_math_bits_deBruijn32tab {H : Type} : DataW H := .agg [.lit (.int .u8 0), .lit (.int .u8 1), .lit (.int .u8 28), .lit (.int .u8 2), .lit (.int .u8 29), .lit (.int .u8 14), .lit (.int .u8 24), .lit (.int .u8 3), .lit (.int .u8 30), .lit (.int .u8 22), .lit (.int .u8 20), .lit (.int .u8 15), .lit (.int .u8 25), .lit (.int .u8 17), .lit (.int .u8 4), .lit (.int .u8 8), .lit (.int .u8 31), .lit (.int .u8 27), .lit (.int .u8 13), .lit (.int .u8 23), .lit (.int .u8 21), .lit (.int .u8 19), .lit (.int .u8 16), .lit (.int .u8 7), .lit (.int .u8 26), .lit (.int .u8 12), .lit (.int .u8 18), .lit (.int .u8 6), .lit (.int .u8 11), .lit (.int .u8 5), .lit (.int .u8 10), .lit (.int .u8 9)]
def laid_math_bits_deBruijn64tab {H : Type} : DataW H := .agg [.lit (.int .u8 0), .lit (.int .u8 1), .lit (.int .u8 56), .lit (.int .u8 2), .lit (.int .u8 57), .lit (.int .u8 49), .lit (.int .u8 28), .lit (.int .u8 3), .lit (.int .u8 61), .lit (.int .u8 58), .lit (.int .u8 42), .lit (.int .u8 50), .lit (.int .u8 38), .lit (.int .u8 29), .lit (.int .u8 17), .lit (.int .u8 4), .lit (.int .u8 62), .lit (.int .u8 47), .lit (.int .u8 59), .lit (.int .u8 36), .lit (.int .u8 45), .lit (.int .u8 43), .lit (.int .u8 51), .lit (.int .u8 22), .lit (.int .u8 53), .lit (.int .u8 39), .lit (.int .u8 33), .lit (.int .u8 30), .lit (.int .u8 24), .lit (.int .u8 18), .lit (.int .u8 12), .lit (.int .u8 5), .lit (.int .u8 63), .lit (.int .u8 55), .lit (.int .u8 48), .lit (.int .u8 27), .lit (.int .u8 60), .lit (.int .u8 41), .lit (.int .u8 37), .lit (.int .u8 16), .lit (.int .u8 46), .lit (.int .u8 35), .lit (.int .u8 44), .lit (.int .u8 21), .lit (.int .u8 52), .lit (.int .u8 32), .lit (.int .u8 23), .lit (.int .u8 11), .lit (.int .u8 54), .lit (.int .u8 26), .lit (.int .u8 40), .lit (.int .u8 15), .lit (.int .u8 34), .lit (.int .u8 20), .lit (.int .u8 31), .lit (.int .u8 10), .lit (.int .u8 25), .lit (.int .u8 14), .lit (.int .u8 19), .lit (.int .u8 9), .lit (.int .u8 13), .lit (.int .u8 8), .lit (.int .u8 7), .lit (.int .u8 6)]
def laid_internal_strconv_uint64pow10 {H : Type} : DataW H := .agg [.lit (.int .u64 1), .lit (.int .u64 10), .lit (.int .u64 100), .lit (.int .u64 1000), .lit (.int .u64 10000), .lit (.int .u64 100000), .lit (.int .u64 1000000), .lit (.int .u64 10000000), .lit (.int .u64 100000000), .lit (.int .u64 1000000000), .lit (.int .u64 10000000000), .lit (.int .u64 100000000000), .lit (.int .u64 1000000000000), .lit (.int .u64 10000000000000), .lit (.int .u64 100000000000000), .lit (.int .u64 1000000000000000), .lit (.int .u64 10000000000000000), .lit (.int .u64 100000000000000000), .lit (.int .u64 1000000000000000000), .lit (.int .u64 10000000000000000000)]
def laid_transit_date_monthLengths {H : Type} : DataW H := .agg [.lit (.int .i64 31), .lit (.int .i64 28), .lit (.int .i64 31), .lit (.int .i64 30), .lit (.int .i64 31), .lit (.int .i64 30), .lit (.int .i64 31), .lit (.int .i64 31), .lit (.int .i64 30), .lit (.int .i64 31), .lit (.int .i64 30), .lit (.int .i64 31)]

/-- 'transitlaw02.DateMonths': WHATEVER THE INPUT: true; the input reads as it did. -/
def dateMonthsSpec : ChangeSpec := { name := "dateMonths", fn := fun _ => fun
  | [d1, d2, d3] => { results := [.lit (.bool true)], args := [d1, d2, d3] }
  | _ => none }
def dateMonthsRow : OpenClaim := { program := "ytalghfmdaifcgaadoor", sum := "4d48955405ececd3f170a88d8d3a0fc14921e6850e686b4b6cb31cd4468e882e", func := "transit/transitlaw02.DateMonths", spec := "dateMonths", inPlace := ["internal/abi.NoEscape", "internal/bytealg.MakeNoZero"], named := ["transit/date.monthLengths", "internal/strconv.uint64pow10", "math/bits.deBruijn32tab", "math/bits.deBruijn64tab"], apart := false, laid := [("math/bits.deBruijn32tab", laid_math_bits_deBruijn32tab), ("math/bits.deBruijn64tab", laid_math_bits_deBruijn64tab), ("internal/strconv.uint64pow10", laid_internal_strconv_uint64pow10), ("transit/date.monthLengths", laid_transit_date_monthLengths)] }
def DateMonthsSaid : Prop := dateMonthsRow.holds Tryd.pinned (OpenSpec.ofChange dateMonthsSpec)

/-- ITS FALSE NEIGHBOUR: 'it returns false'. Refute it at one input. -/
def dateMonthsWrong : ChangeSpec := { name := "dateMonths", fn := fun _ => fun
  | [d1, d2, d3] => { results := [.lit (.bool false)], args := [d1, d2, d3] }
  | _ => none }
def DateMonthsWrongFalsely : Prop := dateMonthsRow.holds Tryd.pinned (OpenSpec.ofChange dateMonthsWrong)

/-- 'transitlaw02.DateFromCivils': WHATEVER THE INPUT: true; the input reads as it did. -/
def dateFromCivilsSpec : ChangeSpec := { name := "dateFromCivils", fn := fun _ => fun
  | [d1, d2, d3] => { results := [.lit (.bool true)], args := [d1, d2, d3] }
  | _ => none }
def dateFromCivilsRow : OpenClaim := { program := "ytalghfmdaifcgaadoor", sum := "4d48955405ececd3f170a88d8d3a0fc14921e6850e686b4b6cb31cd4468e882e", func := "transit/transitlaw02.DateFromCivils", spec := "dateFromCivils", inPlace := ["internal/abi.NoEscape", "internal/bytealg.MakeNoZero"], named := ["transit/date.monthLengths", "internal/strconv.uint64pow10", "math/bits.deBruijn32tab", "math/bits.deBruijn64tab"], apart := false, laid := [("math/bits.deBruijn32tab", laid_math_bits_deBruijn32tab), ("math/bits.deBruijn64tab", laid_math_bits_deBruijn64tab), ("internal/strconv.uint64pow10", laid_internal_strconv_uint64pow10), ("transit/date.monthLengths", laid_transit_date_monthLengths)] }
def DateFromCivilsSaid : Prop := dateFromCivilsRow.holds Tryd.pinned (OpenSpec.ofChange dateFromCivilsSpec)

/-- ITS FALSE NEIGHBOUR: 'it returns false'. Refute it at one input. -/
def dateFromCivilsWrong : ChangeSpec := { name := "dateFromCivils", fn := fun _ => fun
  | [d1, d2, d3] => { results := [.lit (.bool false)], args := [d1, d2, d3] }
  | _ => none }
def DateFromCivilsWrongFalsely : Prop := dateFromCivilsRow.holds Tryd.pinned (OpenSpec.ofChange dateFromCivilsWrong)

/-- 'transitlaw02.DateCivils': WHATEVER THE INPUT: true; the input reads as it did. -/
def dateCivilsSpec : ChangeSpec := { name := "dateCivils", fn := fun _ => fun
  | [d] => { results := [.lit (.bool true)], args := [d] }
  | _ => none }
def dateCivilsRow : OpenClaim := { program := "ytalghfmdaifcgaadoor", sum := "4d48955405ececd3f170a88d8d3a0fc14921e6850e686b4b6cb31cd4468e882e", func := "transit/transitlaw02.DateCivils", spec := "dateCivils", inPlace := ["internal/abi.NoEscape", "internal/bytealg.MakeNoZero"], named := ["transit/date.monthLengths", "internal/strconv.uint64pow10", "math/bits.deBruijn32tab", "math/bits.deBruijn64tab"], apart := false, laid := [("math/bits.deBruijn32tab", laid_math_bits_deBruijn32tab), ("math/bits.deBruijn64tab", laid_math_bits_deBruijn64tab), ("internal/strconv.uint64pow10", laid_internal_strconv_uint64pow10), ("transit/date.monthLengths", laid_transit_date_monthLengths)] }
def DateCivilsSaid : Prop := dateCivilsRow.holds Tryd.pinned (OpenSpec.ofChange dateCivilsSpec)

/-- ITS FALSE NEIGHBOUR: 'it returns false'. Refute it at one input. -/
def dateCivilsWrong : ChangeSpec := { name := "dateCivils", fn := fun _ => fun
  | [d] => { results := [.lit (.bool false)], args := [d] }
  | _ => none }
def DateCivilsWrongFalsely : Prop := dateCivilsRow.holds Tryd.pinned (OpenSpec.ofChange dateCivilsWrong)

/-- 'transitlaw02.DateFormats': WHATEVER THE INPUT: true; the input reads as it did. -/
def dateFormatsSpec : ChangeSpec := { name := "dateFormats", fn := fun _ => fun
  | [d] => { results := [.lit (.bool true)], args := [d] }
  | _ => none }
def dateFormatsRow : OpenClaim := { program := "ytalghfmdaifcgaadoor", sum := "4d48955405ececd3f170a88d8d3a0fc14921e6850e686b4b6cb31cd4468e882e", func := "transit/transitlaw02.DateFormats", spec := "dateFormats", inPlace := ["internal/abi.NoEscape", "internal/bytealg.MakeNoZero"], named := ["transit/date.monthLengths", "internal/strconv.uint64pow10", "math/bits.deBruijn32tab", "math/bits.deBruijn64tab"], apart := false, laid := [("math/bits.deBruijn32tab", laid_math_bits_deBruijn32tab), ("math/bits.deBruijn64tab", laid_math_bits_deBruijn64tab), ("internal/strconv.uint64pow10", laid_internal_strconv_uint64pow10), ("transit/date.monthLengths", laid_transit_date_monthLengths)] }
def DateFormatsSaid : Prop := dateFormatsRow.holds Tryd.pinned (OpenSpec.ofChange dateFormatsSpec)

/-- ITS FALSE NEIGHBOUR: 'it returns false'. Refute it at one input. -/
def dateFormatsWrong : ChangeSpec := { name := "dateFormats", fn := fun _ => fun
  | [d] => { results := [.lit (.bool false)], args := [d] }
  | _ => none }
def DateFormatsWrongFalsely : Prop := dateFormatsRow.holds Tryd.pinned (OpenSpec.ofChange dateFormatsWrong)

/-- 'transitlaw02.DateParses': WHATEVER THE INPUT: true; the input reads as it did. -/
def dateParsesSpec : ChangeSpec := { name := "dateParses", fn := fun _ => fun
  | [d] => { results := [.lit (.bool true)], args := [d] }
  | _ => none }
def dateParsesRow : OpenClaim := { program := "ytalghfmdaifcgaadoor", sum := "4d48955405ececd3f170a88d8d3a0fc14921e6850e686b4b6cb31cd4468e882e", func := "transit/transitlaw02.DateParses", spec := "dateParses", inPlace := ["internal/abi.NoEscape", "internal/bytealg.MakeNoZero"], named := ["transit/date.monthLengths", "internal/strconv.uint64pow10", "math/bits.deBruijn32tab", "math/bits.deBruijn64tab"], apart := false, laid := [("math/bits.deBruijn32tab", laid_math_bits_deBruijn32tab), ("math/bits.deBruijn64tab", laid_math_bits_deBruijn64tab), ("internal/strconv.uint64pow10", laid_internal_strconv_uint64pow10), ("transit/date.monthLengths", laid_transit_date_monthLengths)] }
def DateParsesSaid : Prop := dateParsesRow.holds Tryd.pinned (OpenSpec.ofChange dateParsesSpec)

/-- ITS FALSE NEIGHBOUR: 'it returns false'. Refute it at one input. -/
def dateParsesWrong : ChangeSpec := { name := "dateParses", fn := fun _ => fun
  | [d] => { results := [.lit (.bool false)], args := [d] }
  | _ => none }
def DateParsesWrongFalsely : Prop := dateParsesRow.holds Tryd.pinned (OpenSpec.ofChange dateParsesWrong)

/-- 'transitlaw02.DateMoments': WHATEVER THE INPUT: true; the input reads as it did. -/
def dateMomentsSpec : ChangeSpec := { name := "dateMoments", fn := fun _ => fun
  | [d1, d2, d3] => { results := [.lit (.bool true)], args := [d1, d2, d3] }
  | _ => none }
def dateMomentsRow : OpenClaim := { program := "ytalghfmdaifcgaadoor", sum := "4d48955405ececd3f170a88d8d3a0fc14921e6850e686b4b6cb31cd4468e882e", func := "transit/transitlaw02.DateMoments", spec := "dateMoments", inPlace := ["internal/abi.NoEscape", "internal/bytealg.MakeNoZero"], named := ["transit/date.monthLengths", "internal/strconv.uint64pow10", "math/bits.deBruijn32tab", "math/bits.deBruijn64tab"], apart := false, laid := [("math/bits.deBruijn32tab", laid_math_bits_deBruijn32tab), ("math/bits.deBruijn64tab", laid_math_bits_deBruijn64tab), ("internal/strconv.uint64pow10", laid_internal_strconv_uint64pow10), ("transit/date.monthLengths", laid_transit_date_monthLengths)] }
def DateMomentsSaid : Prop := dateMomentsRow.holds Tryd.pinned (OpenSpec.ofChange dateMomentsSpec)

/-- ITS FALSE NEIGHBOUR: 'it returns false'. Refute it at one input. -/
def dateMomentsWrong : ChangeSpec := { name := "dateMoments", fn := fun _ => fun
  | [d1, d2, d3] => { results := [.lit (.bool false)], args := [d1, d2, d3] }
  | _ => none }
def DateMomentsWrongFalsely : Prop := dateMomentsRow.holds Tryd.pinned (OpenSpec.ofChange dateMomentsWrong)

/-- 'transitlaw02.DateStamps': WHATEVER THE INPUT: true; the input reads as it did. -/
def dateStampsSpec : ChangeSpec := { name := "dateStamps", fn := fun _ => fun
  | [d] => { results := [.lit (.bool true)], args := [d] }
  | _ => none }
def dateStampsRow : OpenClaim := { program := "ytalghfmdaifcgaadoor", sum := "4d48955405ececd3f170a88d8d3a0fc14921e6850e686b4b6cb31cd4468e882e", func := "transit/transitlaw02.DateStamps", spec := "dateStamps", inPlace := ["internal/abi.NoEscape", "internal/bytealg.MakeNoZero"], named := ["transit/date.monthLengths", "internal/strconv.uint64pow10", "math/bits.deBruijn32tab", "math/bits.deBruijn64tab"], apart := false, laid := [("math/bits.deBruijn32tab", laid_math_bits_deBruijn32tab), ("math/bits.deBruijn64tab", laid_math_bits_deBruijn64tab), ("internal/strconv.uint64pow10", laid_internal_strconv_uint64pow10), ("transit/date.monthLengths", laid_transit_date_monthLengths)] }
def DateStampsSaid : Prop := dateStampsRow.holds Tryd.pinned (OpenSpec.ofChange dateStampsSpec)

/-- ITS FALSE NEIGHBOUR: 'it returns false'. Refute it at one input. -/
def dateStampsWrong : ChangeSpec := { name := "dateStamps", fn := fun _ => fun
  | [d] => { results := [.lit (.bool false)], args := [d] }
  | _ => none }
def DateStampsWrongFalsely : Prop := dateStampsRow.holds Tryd.pinned (OpenSpec.ofChange dateStampsWrong)

/-- 'transitlaw02.DateReads': WHATEVER THE INPUT: true; the input reads as it did. -/
def dateReadsSpec : ChangeSpec := { name := "dateReads", fn := fun _ => fun
  | [d] => { results := [.lit (.bool true)], args := [d] }
  | _ => none }
def dateReadsRow : OpenClaim := { program := "ytalghfmdaifcgaadoor", sum := "4d48955405ececd3f170a88d8d3a0fc14921e6850e686b4b6cb31cd4468e882e", func := "transit/transitlaw02.DateReads", spec := "dateReads", inPlace := ["internal/abi.NoEscape", "internal/bytealg.MakeNoZero"], named := ["transit/date.monthLengths", "internal/strconv.uint64pow10", "math/bits.deBruijn32tab", "math/bits.deBruijn64tab"], apart := false, laid := [("math/bits.deBruijn32tab", laid_math_bits_deBruijn32tab), ("math/bits.deBruijn64tab", laid_math_bits_deBruijn64tab), ("internal/strconv.uint64pow10", laid_internal_strconv_uint64pow10), ("transit/date.monthLengths", laid_transit_date_monthLengths)] }
def DateReadsSaid : Prop := dateReadsRow.holds Tryd.pinned (OpenSpec.ofChange dateReadsSpec)

/-- ITS FALSE NEIGHBOUR: 'it returns false'. Refute it at one input. -/
def dateReadsWrong : ChangeSpec := { name := "dateReads", fn := fun _ => fun
  | [d] => { results := [.lit (.bool false)], args := [d] }
  | _ => none }
def DateReadsWrongFalsely : Prop := dateReadsRow.holds Tryd.pinned (OpenSpec.ofChange dateReadsWrong)

/-- 'transitlaw02.DateBijection': WHATEVER THE INPUT: true; the input reads as it did. -/
def dateBijectionSpec : ChangeSpec := { name := "dateBijection", fn := fun _ => fun
  | [d1, d2, d3] => { results := [.lit (.bool true)], args := [d1, d2, d3] }
  | _ => none }
def dateBijectionRow : OpenClaim := { program := "ytalghfmdaifcgaadoor", sum := "4d48955405ececd3f170a88d8d3a0fc14921e6850e686b4b6cb31cd4468e882e", func := "transit/transitlaw02.DateBijection", spec := "dateBijection", inPlace := ["internal/abi.NoEscape", "internal/bytealg.MakeNoZero"], named := ["transit/date.monthLengths", "internal/strconv.uint64pow10", "math/bits.deBruijn32tab", "math/bits.deBruijn64tab"], apart := false, laid := [("math/bits.deBruijn32tab", laid_math_bits_deBruijn32tab), ("math/bits.deBruijn64tab", laid_math_bits_deBruijn64tab), ("internal/strconv.uint64pow10", laid_internal_strconv_uint64pow10), ("transit/date.monthLengths", laid_transit_date_monthLengths)] }
def DateBijectionSaid : Prop := dateBijectionRow.holds Tryd.pinned (OpenSpec.ofChange dateBijectionSpec)

/-- ITS FALSE NEIGHBOUR: 'it returns false'. Refute it at one input. -/
def dateBijectionWrong : ChangeSpec := { name := "dateBijection", fn := fun _ => fun
  | [d1, d2, d3] => { results := [.lit (.bool false)], args := [d1, d2, d3] }
  | _ => none }
def DateBijectionWrongFalsely : Prop := dateBijectionRow.holds Tryd.pinned (OpenSpec.ofChange dateBijectionWrong)

/-- 'transitlaw02.DateWeeks': WHATEVER THE INPUT: true; the input reads as it did. -/
def dateWeeksSpec : ChangeSpec := { name := "dateWeeks", fn := fun _ => fun
  | [d] => { results := [.lit (.bool true)], args := [d] }
  | _ => none }
def dateWeeksRow : OpenClaim := { program := "ytalghfmdaifcgaadoor", sum := "4d48955405ececd3f170a88d8d3a0fc14921e6850e686b4b6cb31cd4468e882e", func := "transit/transitlaw02.DateWeeks", spec := "dateWeeks", inPlace := ["internal/abi.NoEscape", "internal/bytealg.MakeNoZero"], named := ["transit/date.monthLengths", "internal/strconv.uint64pow10", "math/bits.deBruijn32tab", "math/bits.deBruijn64tab"], apart := false, laid := [("math/bits.deBruijn32tab", laid_math_bits_deBruijn32tab), ("math/bits.deBruijn64tab", laid_math_bits_deBruijn64tab), ("internal/strconv.uint64pow10", laid_internal_strconv_uint64pow10), ("transit/date.monthLengths", laid_transit_date_monthLengths)] }
def DateWeeksSaid : Prop := dateWeeksRow.holds Tryd.pinned (OpenSpec.ofChange dateWeeksSpec)

/-- ITS FALSE NEIGHBOUR: 'it returns false'. Refute it at one input. -/
def dateWeeksWrong : ChangeSpec := { name := "dateWeeks", fn := fun _ => fun
  | [d] => { results := [.lit (.bool false)], args := [d] }
  | _ => none }
def DateWeeksWrongFalsely : Prop := dateWeeksRow.holds Tryd.pinned (OpenSpec.ofChange dateWeeksWrong)

/-- 'transitlaw02.DateOrders': WHATEVER THE INPUT: true; the input reads as it did. -/
def dateOrdersSpec : ChangeSpec := { name := "dateOrders", fn := fun _ => fun
  | [d1, d2] => { results := [.lit (.bool true)], args := [d1, d2] }
  | _ => none }
def dateOrdersRow : OpenClaim := { program := "ytalghfmdaifcgaadoor", sum := "4d48955405ececd3f170a88d8d3a0fc14921e6850e686b4b6cb31cd4468e882e", func := "transit/transitlaw02.DateOrders", spec := "dateOrders", inPlace := ["internal/abi.NoEscape", "internal/bytealg.MakeNoZero"], named := ["transit/date.monthLengths", "internal/strconv.uint64pow10", "math/bits.deBruijn32tab", "math/bits.deBruijn64tab"], apart := false, laid := [("math/bits.deBruijn32tab", laid_math_bits_deBruijn32tab), ("math/bits.deBruijn64tab", laid_math_bits_deBruijn64tab), ("internal/strconv.uint64pow10", laid_internal_strconv_uint64pow10), ("transit/date.monthLengths", laid_transit_date_monthLengths)] }
def DateOrdersSaid : Prop := dateOrdersRow.holds Tryd.pinned (OpenSpec.ofChange dateOrdersSpec)

/-- ITS FALSE NEIGHBOUR: 'it returns false'. Refute it at one input. -/
def dateOrdersWrong : ChangeSpec := { name := "dateOrders", fn := fun _ => fun
  | [d1, d2] => { results := [.lit (.bool false)], args := [d1, d2] }
  | _ => none }
def DateOrdersWrongFalsely : Prop := dateOrdersRow.holds Tryd.pinned (OpenSpec.ofChange dateOrdersWrong)

/- THE SECOND FORM. 'bulk': how many values and letters a reading holds, each counted each time it is reached (what is shared counts as often as it is met; a slice's spare places count too). A statement '..UptoSaid' is the law's where the arguments, and the package variables that the reading takes, are together of bulk at most 1048576: NARROWER than '..Said'. Prove '..Said' where nothing that the law and all that it calls make is longer than what came in: it says more and counts as full. Else prove '..UptoSaid'. A law counts once. -/
mutual
def uptoBulk {H : Type} : DataW H → Nat
  | .lit (.string bytes) => bytes.length + 1
  | .lit _ => 1
  | .nil => 1
  | .ptr d => uptoBulk d + 1
  | .slice elems spare => uptoBulkAll elems + uptoBulkAll spare + 1
  | .agg parts => uptoBulkAll parts + 1
  | .iface _ d => uptoBulk d + 1
  | .map entries => uptoBulkEntries entries + 1
  | .held _ => 1
def uptoBulkAll {H : Type} : List (DataW H) → Nat
  | [] => 0
  | d :: r => uptoBulk d + uptoBulkAll r
def uptoBulkEntries {H : Type} : List (Lit × DataW H) → Nat
  | [] => 0
  | x :: r => uptoBulkEntry x + uptoBulkEntries r
def uptoBulkEntry {H : Type} : Lit × DataW H → Nat
  | (.string bytes, d) => bytes.length + uptoBulk d + 1
  | (_, d) => uptoBulk d + 1
 end
def uptoSmall : (H : Type) → List (DataW H) → Bool := fun _ ds => decide (uptoBulkAll ds ≤ 1048576)
def OpenSpec.upto (s : _root_.Go.ChangeSpec) : _root_.Go.OpenSpec := { _root_.Go.OpenSpec.ofChange s with cond := some uptoSmall }

/-- 'transitlaw02.DateMonths', WHERE WHAT IT READS IS OF BULK AT MOST 1048576: true; the input reads as it did. -/
def dateMonthsUptoRow : OpenClaim := { program := "ytalghfmdaifcgaadoor", sum := "4d48955405ececd3f170a88d8d3a0fc14921e6850e686b4b6cb31cd4468e882e", func := "transit/transitlaw02.DateMonths", spec := "dateMonths", inPlace := ["internal/abi.NoEscape", "internal/bytealg.MakeNoZero"], named := ["transit/date.monthLengths", "internal/strconv.uint64pow10", "math/bits.deBruijn32tab", "math/bits.deBruijn64tab"], apart := false, laid := [("math/bits.deBruijn32tab", laid_math_bits_deBruijn32tab), ("math/bits.deBruijn64tab", laid_math_bits_deBruijn64tab), ("internal/strconv.uint64pow10", laid_internal_strconv_uint64pow10), ("transit/date.monthLengths", laid_transit_date_monthLengths)], narrowed := true }
def DateMonthsUptoSaid : Prop := dateMonthsUptoRow.holds Tryd.pinned (OpenSpec.upto dateMonthsSpec)

/-- 'transitlaw02.DateFromCivils', WHERE WHAT IT READS IS OF BULK AT MOST 1048576: true; the input reads as it did. -/
def dateFromCivilsUptoRow : OpenClaim := { program := "ytalghfmdaifcgaadoor", sum := "4d48955405ececd3f170a88d8d3a0fc14921e6850e686b4b6cb31cd4468e882e", func := "transit/transitlaw02.DateFromCivils", spec := "dateFromCivils", inPlace := ["internal/abi.NoEscape", "internal/bytealg.MakeNoZero"], named := ["transit/date.monthLengths", "internal/strconv.uint64pow10", "math/bits.deBruijn32tab", "math/bits.deBruijn64tab"], apart := false, laid := [("math/bits.deBruijn32tab", laid_math_bits_deBruijn32tab), ("math/bits.deBruijn64tab", laid_math_bits_deBruijn64tab), ("internal/strconv.uint64pow10", laid_internal_strconv_uint64pow10), ("transit/date.monthLengths", laid_transit_date_monthLengths)], narrowed := true }
def DateFromCivilsUptoSaid : Prop := dateFromCivilsUptoRow.holds Tryd.pinned (OpenSpec.upto dateFromCivilsSpec)

/-- 'transitlaw02.DateCivils', WHERE WHAT IT READS IS OF BULK AT MOST 1048576: true; the input reads as it did. -/
def dateCivilsUptoRow : OpenClaim := { program := "ytalghfmdaifcgaadoor", sum := "4d48955405ececd3f170a88d8d3a0fc14921e6850e686b4b6cb31cd4468e882e", func := "transit/transitlaw02.DateCivils", spec := "dateCivils", inPlace := ["internal/abi.NoEscape", "internal/bytealg.MakeNoZero"], named := ["transit/date.monthLengths", "internal/strconv.uint64pow10", "math/bits.deBruijn32tab", "math/bits.deBruijn64tab"], apart := false, laid := [("math/bits.deBruijn32tab", laid_math_bits_deBruijn32tab), ("math/bits.deBruijn64tab", laid_math_bits_deBruijn64tab), ("internal/strconv.uint64pow10", laid_internal_strconv_uint64pow10), ("transit/date.monthLengths", laid_transit_date_monthLengths)], narrowed := true }
def DateCivilsUptoSaid : Prop := dateCivilsUptoRow.holds Tryd.pinned (OpenSpec.upto dateCivilsSpec)

/-- 'transitlaw02.DateFormats', WHERE WHAT IT READS IS OF BULK AT MOST 1048576: true; the input reads as it did. -/
def dateFormatsUptoRow : OpenClaim := { program := "ytalghfmdaifcgaadoor", sum := "4d48955405ececd3f170a88d8d3a0fc14921e6850e686b4b6cb31cd4468e882e", func := "transit/transitlaw02.DateFormats", spec := "dateFormats", inPlace := ["internal/abi.NoEscape", "internal/bytealg.MakeNoZero"], named := ["transit/date.monthLengths", "internal/strconv.uint64pow10", "math/bits.deBruijn32tab", "math/bits.deBruijn64tab"], apart := false, laid := [("math/bits.deBruijn32tab", laid_math_bits_deBruijn32tab), ("math/bits.deBruijn64tab", laid_math_bits_deBruijn64tab), ("internal/strconv.uint64pow10", laid_internal_strconv_uint64pow10), ("transit/date.monthLengths", laid_transit_date_monthLengths)], narrowed := true }
def DateFormatsUptoSaid : Prop := dateFormatsUptoRow.holds Tryd.pinned (OpenSpec.upto dateFormatsSpec)

/-- 'transitlaw02.DateParses', WHERE WHAT IT READS IS OF BULK AT MOST 1048576: true; the input reads as it did. -/
def dateParsesUptoRow : OpenClaim := { program := "ytalghfmdaifcgaadoor", sum := "4d48955405ececd3f170a88d8d3a0fc14921e6850e686b4b6cb31cd4468e882e", func := "transit/transitlaw02.DateParses", spec := "dateParses", inPlace := ["internal/abi.NoEscape", "internal/bytealg.MakeNoZero"], named := ["transit/date.monthLengths", "internal/strconv.uint64pow10", "math/bits.deBruijn32tab", "math/bits.deBruijn64tab"], apart := false, laid := [("math/bits.deBruijn32tab", laid_math_bits_deBruijn32tab), ("math/bits.deBruijn64tab", laid_math_bits_deBruijn64tab), ("internal/strconv.uint64pow10", laid_internal_strconv_uint64pow10), ("transit/date.monthLengths", laid_transit_date_monthLengths)], narrowed := true }
def DateParsesUptoSaid : Prop := dateParsesUptoRow.holds Tryd.pinned (OpenSpec.upto dateParsesSpec)

/-- 'transitlaw02.DateMoments', WHERE WHAT IT READS IS OF BULK AT MOST 1048576: true; the input reads as it did. -/
def dateMomentsUptoRow : OpenClaim := { program := "ytalghfmdaifcgaadoor", sum := "4d48955405ececd3f170a88d8d3a0fc14921e6850e686b4b6cb31cd4468e882e", func := "transit/transitlaw02.DateMoments", spec := "dateMoments", inPlace := ["internal/abi.NoEscape", "internal/bytealg.MakeNoZero"], named := ["transit/date.monthLengths", "internal/strconv.uint64pow10", "math/bits.deBruijn32tab", "math/bits.deBruijn64tab"], apart := false, laid := [("math/bits.deBruijn32tab", laid_math_bits_deBruijn32tab), ("math/bits.deBruijn64tab", laid_math_bits_deBruijn64tab), ("internal/strconv.uint64pow10", laid_internal_strconv_uint64pow10), ("transit/date.monthLengths", laid_transit_date_monthLengths)], narrowed := true }
def DateMomentsUptoSaid : Prop := dateMomentsUptoRow.holds Tryd.pinned (OpenSpec.upto dateMomentsSpec)

/-- 'transitlaw02.DateStamps', WHERE WHAT IT READS IS OF BULK AT MOST 1048576: true; the input reads as it did. -/
def dateStampsUptoRow : OpenClaim := { program := "ytalghfmdaifcgaadoor", sum := "4d48955405ececd3f170a88d8d3a0fc14921e6850e686b4b6cb31cd4468e882e", func := "transit/transitlaw02.DateStamps", spec := "dateStamps", inPlace := ["internal/abi.NoEscape", "internal/bytealg.MakeNoZero"], named := ["transit/date.monthLengths", "internal/strconv.uint64pow10", "math/bits.deBruijn32tab", "math/bits.deBruijn64tab"], apart := false, laid := [("math/bits.deBruijn32tab", laid_math_bits_deBruijn32tab), ("math/bits.deBruijn64tab", laid_math_bits_deBruijn64tab), ("internal/strconv.uint64pow10", laid_internal_strconv_uint64pow10), ("transit/date.monthLengths", laid_transit_date_monthLengths)], narrowed := true }
def DateStampsUptoSaid : Prop := dateStampsUptoRow.holds Tryd.pinned (OpenSpec.upto dateStampsSpec)

/-- 'transitlaw02.DateReads', WHERE WHAT IT READS IS OF BULK AT MOST 1048576: true; the input reads as it did. -/
def dateReadsUptoRow : OpenClaim := { program := "ytalghfmdaifcgaadoor", sum := "4d48955405ececd3f170a88d8d3a0fc14921e6850e686b4b6cb31cd4468e882e", func := "transit/transitlaw02.DateReads", spec := "dateReads", inPlace := ["internal/abi.NoEscape", "internal/bytealg.MakeNoZero"], named := ["transit/date.monthLengths", "internal/strconv.uint64pow10", "math/bits.deBruijn32tab", "math/bits.deBruijn64tab"], apart := false, laid := [("math/bits.deBruijn32tab", laid_math_bits_deBruijn32tab), ("math/bits.deBruijn64tab", laid_math_bits_deBruijn64tab), ("internal/strconv.uint64pow10", laid_internal_strconv_uint64pow10), ("transit/date.monthLengths", laid_transit_date_monthLengths)], narrowed := true }
def DateReadsUptoSaid : Prop := dateReadsUptoRow.holds Tryd.pinned (OpenSpec.upto dateReadsSpec)

/-- 'transitlaw02.DateBijection', WHERE WHAT IT READS IS OF BULK AT MOST 1048576: true; the input reads as it did. -/
def dateBijectionUptoRow : OpenClaim := { program := "ytalghfmdaifcgaadoor", sum := "4d48955405ececd3f170a88d8d3a0fc14921e6850e686b4b6cb31cd4468e882e", func := "transit/transitlaw02.DateBijection", spec := "dateBijection", inPlace := ["internal/abi.NoEscape", "internal/bytealg.MakeNoZero"], named := ["transit/date.monthLengths", "internal/strconv.uint64pow10", "math/bits.deBruijn32tab", "math/bits.deBruijn64tab"], apart := false, laid := [("math/bits.deBruijn32tab", laid_math_bits_deBruijn32tab), ("math/bits.deBruijn64tab", laid_math_bits_deBruijn64tab), ("internal/strconv.uint64pow10", laid_internal_strconv_uint64pow10), ("transit/date.monthLengths", laid_transit_date_monthLengths)], narrowed := true }
def DateBijectionUptoSaid : Prop := dateBijectionUptoRow.holds Tryd.pinned (OpenSpec.upto dateBijectionSpec)

/-- 'transitlaw02.DateWeeks', WHERE WHAT IT READS IS OF BULK AT MOST 1048576: true; the input reads as it did. -/
def dateWeeksUptoRow : OpenClaim := { program := "ytalghfmdaifcgaadoor", sum := "4d48955405ececd3f170a88d8d3a0fc14921e6850e686b4b6cb31cd4468e882e", func := "transit/transitlaw02.DateWeeks", spec := "dateWeeks", inPlace := ["internal/abi.NoEscape", "internal/bytealg.MakeNoZero"], named := ["transit/date.monthLengths", "internal/strconv.uint64pow10", "math/bits.deBruijn32tab", "math/bits.deBruijn64tab"], apart := false, laid := [("math/bits.deBruijn32tab", laid_math_bits_deBruijn32tab), ("math/bits.deBruijn64tab", laid_math_bits_deBruijn64tab), ("internal/strconv.uint64pow10", laid_internal_strconv_uint64pow10), ("transit/date.monthLengths", laid_transit_date_monthLengths)], narrowed := true }
def DateWeeksUptoSaid : Prop := dateWeeksUptoRow.holds Tryd.pinned (OpenSpec.upto dateWeeksSpec)

/-- 'transitlaw02.DateOrders', WHERE WHAT IT READS IS OF BULK AT MOST 1048576: true; the input reads as it did. -/
def dateOrdersUptoRow : OpenClaim := { program := "ytalghfmdaifcgaadoor", sum := "4d48955405ececd3f170a88d8d3a0fc14921e6850e686b4b6cb31cd4468e882e", func := "transit/transitlaw02.DateOrders", spec := "dateOrders", inPlace := ["internal/abi.NoEscape", "internal/bytealg.MakeNoZero"], named := ["transit/date.monthLengths", "internal/strconv.uint64pow10", "math/bits.deBruijn32tab", "math/bits.deBruijn64tab"], apart := false, laid := [("math/bits.deBruijn32tab", laid_math_bits_deBruijn32tab), ("math/bits.deBruijn64tab", laid_math_bits_deBruijn64tab), ("internal/strconv.uint64pow10", laid_internal_strconv_uint64pow10), ("transit/date.monthLengths", laid_transit_date_monthLengths)], narrowed := true }
def DateOrdersUptoSaid : Prop := dateOrdersUptoRow.holds Tryd.pinned (OpenSpec.upto dateOrdersSpec)

end Rows
end Go.Proofs.YtalghfmdaifcgaaDoor
