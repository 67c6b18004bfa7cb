/-
  No cell of these rows narrows 'for every input' (looked for: loops, veiled, ifaces, maps, wideKeys, modest, calm, conditions, laid).
  DERIVED. THE GIVEN ROWS OF THIS SEAT. 6 by the template 'for every input the law returns true; each argument reads behind the call as it read before'; 0 by the template 'total and deterministic' (their statements: YtkpmmojfnhfflaaTotals.lean).
  GIVEN WITH THE SEED: the statements are not yours to turn. If you find one false, say at which input.
  Laid BY PROGRAM, IN A SANDBOX (cutbox-rows.mjs): the forced cells as the released guide's own fill.sh prints them over the translation 0a7583fd0015c101… (all of the seat's roots in one cut). By AI agents, Wed Nov 11 2026. No macro, syntax, notation, axiom, sorry.
-/
import Derived.Test.YtkpmmojfnhfflaaChecked
import GoSem.Claim
import GoSem.ClaimJoined
import GoSem.ClaimMapViews
import Derived.JoinedTies
import Derived.KernelRfl
namespace Go.Proofs.Ytkpmmojfnhfflaa
/- THE CELL 'sum', in the pinned program and in every row, IS THE sha256 OF THE DUMP (.gsa) THAT YtkpmmojfnhfflaaProg.lean LOADS. Nothing in Lean hashes anything: it is a label: what it is worth is what the hold of that sum in a sandbox is worth. -/
noncomputable def Try.pinned : Pinned := { name := "ytkpmmojfnhfflaa", sum := "0a7583fd0015c1012c4837158d1538e26e4671e03f5dcb4ed7bede202018d40b", checked := Try.checked }
namespace Rows
def none {H : Type} : Left H := { results := [], args := [] }

/-- 'transitlaw21.ProductChecks': WHATEVER THE INPUT: true; the input reads as it did. -/
def productChecksSpec : ChangeSpec := { name := "productChecks", fn := fun _ => fun
  | [d] => { results := [.lit (.bool true)], args := [d] }
  | _ => none }
def productChecksRow : OpenClaim := { program := "ytkpmmojfnhfflaa", sum := "0a7583fd0015c1012c4837158d1538e26e4671e03f5dcb4ed7bede202018d40b", func := "transit/transitlaw21.ProductChecks", spec := "productChecks", unfollowed := true, recurses := true, apart := false }
def ProductChecksSaid : Prop := productChecksRow.holds Try.pinned (OpenSpec.ofChange productChecksSpec)

/-- ITS FALSE NEIGHBOUR: 'it returns false'. Refute it at one input. -/
def productChecksWrong : ChangeSpec := { name := "productChecks", fn := fun _ => fun
  | [d] => { results := [.lit (.bool false)], args := [d] }
  | _ => none }
def ProductChecksWrongFalsely : Prop := productChecksRow.holds Try.pinned (OpenSpec.ofChange productChecksWrong)

/-- 'transitlaw21.ProductSelects': WHATEVER THE INPUT: true; the input reads as it did. -/
def productSelectsSpec : ChangeSpec := { name := "productSelects", fn := fun _ => fun
  | [d1, d2] => { results := [.lit (.bool true)], args := [d1, d2] }
  | _ => none }
def productSelectsRow : OpenClaim := { program := "ytkpmmojfnhfflaa", sum := "0a7583fd0015c1012c4837158d1538e26e4671e03f5dcb4ed7bede202018d40b", func := "transit/transitlaw21.ProductSelects", spec := "productSelects", unfollowed := true, recurses := true, apart := false }
def ProductSelectsSaid : Prop := productSelectsRow.holds Try.pinned (OpenSpec.ofChange productSelectsSpec)

/-- ITS FALSE NEIGHBOUR: 'it returns false'. Refute it at one input. -/
def productSelectsWrong : ChangeSpec := { name := "productSelects", fn := fun _ => fun
  | [d1, d2] => { results := [.lit (.bool false)], args := [d1, d2] }
  | _ => none }
def ProductSelectsWrongFalsely : Prop := productSelectsRow.holds Try.pinned (OpenSpec.ofChange productSelectsWrong)

/-- 'transitlaw21.ProductPrices': WHATEVER THE INPUT: true; the input reads as it did. -/
def productPricesSpec : ChangeSpec := { name := "productPrices", fn := fun _ => fun
  | [d1, d2, d3] => { results := [.lit (.bool true)], args := [d1, d2, d3] }
  | _ => none }
def productPricesRow : OpenClaim := { program := "ytkpmmojfnhfflaa", sum := "0a7583fd0015c1012c4837158d1538e26e4671e03f5dcb4ed7bede202018d40b", func := "transit/transitlaw21.ProductPrices", spec := "productPrices", unfollowed := true, recurses := true, apart := false }
def ProductPricesSaid : Prop := productPricesRow.holds Try.pinned (OpenSpec.ofChange productPricesSpec)

/-- ITS FALSE NEIGHBOUR: 'it returns false'. Refute it at one input. -/
def productPricesWrong : ChangeSpec := { name := "productPrices", fn := fun _ => fun
  | [d1, d2, d3] => { results := [.lit (.bool false)], args := [d1, d2, d3] }
  | _ => none }
def ProductPricesWrongFalsely : Prop := productPricesRow.holds Try.pinned (OpenSpec.ofChange productPricesWrong)

/-- 'transitlaw21.ProductCheapest': WHATEVER THE INPUT: true; the input reads as it did. -/
def productCheapestSpec : ChangeSpec := { name := "productCheapest", fn := fun _ => fun
  | [d1, d2] => { results := [.lit (.bool true)], args := [d1, d2] }
  | _ => none }
def productCheapestRow : OpenClaim := { program := "ytkpmmojfnhfflaa", sum := "0a7583fd0015c1012c4837158d1538e26e4671e03f5dcb4ed7bede202018d40b", func := "transit/transitlaw21.ProductCheapest", spec := "productCheapest", unfollowed := true, recurses := true, apart := false }
def ProductCheapestSaid : Prop := productCheapestRow.holds Try.pinned (OpenSpec.ofChange productCheapestSpec)

/-- ITS FALSE NEIGHBOUR: 'it returns false'. Refute it at one input. -/
def productCheapestWrong : ChangeSpec := { name := "productCheapest", fn := fun _ => fun
  | [d1, d2] => { results := [.lit (.bool false)], args := [d1, d2] }
  | _ => none }
def ProductCheapestWrongFalsely : Prop := productCheapestRow.holds Try.pinned (OpenSpec.ofChange productCheapestWrong)

/-- 'transitlaw21.ProductCovers': WHATEVER THE INPUT: true; the input reads as it did. -/
def productCoversSpec : ChangeSpec := { name := "productCovers", fn := fun _ => fun
  | [d1, d2, d3] => { results := [.lit (.bool true)], args := [d1, d2, d3] }
  | _ => none }
def productCoversRow : OpenClaim := { program := "ytkpmmojfnhfflaa", sum := "0a7583fd0015c1012c4837158d1538e26e4671e03f5dcb4ed7bede202018d40b", func := "transit/transitlaw21.ProductCovers", spec := "productCovers", unfollowed := true, recurses := true, apart := false }
def ProductCoversSaid : Prop := productCoversRow.holds Try.pinned (OpenSpec.ofChange productCoversSpec)

/-- ITS FALSE NEIGHBOUR: 'it returns false'. Refute it at one input. -/
def productCoversWrong : ChangeSpec := { name := "productCovers", fn := fun _ => fun
  | [d1, d2, d3] => { results := [.lit (.bool false)], args := [d1, d2, d3] }
  | _ => none }
def ProductCoversWrongFalsely : Prop := productCoversRow.holds Try.pinned (OpenSpec.ofChange productCoversWrong)

/-- 'transitlaw21.ProductDiscounts': WHATEVER THE INPUT: true; the input reads as it did. -/
def productDiscountsSpec : ChangeSpec := { name := "productDiscounts", fn := fun _ => fun
  | [d1, d2, d3] => { results := [.lit (.bool true)], args := [d1, d2, d3] }
  | _ => none }
def productDiscountsRow : OpenClaim := { program := "ytkpmmojfnhfflaa", sum := "0a7583fd0015c1012c4837158d1538e26e4671e03f5dcb4ed7bede202018d40b", func := "transit/transitlaw21.ProductDiscounts", spec := "productDiscounts", unfollowed := true, recurses := true, apart := false }
def ProductDiscountsSaid : Prop := productDiscountsRow.holds Try.pinned (OpenSpec.ofChange productDiscountsSpec)

/-- ITS FALSE NEIGHBOUR: 'it returns false'. Refute it at one input. -/
def productDiscountsWrong : ChangeSpec := { name := "productDiscounts", fn := fun _ => fun
  | [d1, d2, d3] => { results := [.lit (.bool false)], args := [d1, d2, d3] }
  | _ => none }
def ProductDiscountsWrongFalsely : Prop := productDiscountsRow.holds Try.pinned (OpenSpec.ofChange productDiscountsWrong)

/- THE SECOND FORM. 'bulk': how many values and letters a reading holds, each counted each time it is reached (what is shared counts as often as it is met; a slice's spare places count too). A statement '..UptoSaid' is the law's where the arguments, and the package variables that the reading takes, are together of bulk at most 1048576: NARROWER than '..Said'. Prove '..Said' where nothing that the law and all that it calls make is longer than what came in: it says more and counts as full. Else prove '..UptoSaid'. A law counts once. -/
mutual
def uptoBulk {H : Type} : DataW H → Nat
  | .lit (.string bytes) => bytes.length + 1
  | .lit _ => 1
  | .nil => 1
  | .ptr d => uptoBulk d + 1
  | .slice elems spare => uptoBulkAll elems + uptoBulkAll spare + 1
  | .agg parts => uptoBulkAll parts + 1
  | .iface _ d => uptoBulk d + 1
  | .map entries => uptoBulkEntries entries + 1
  | .held _ => 1
def uptoBulkAll {H : Type} : List (DataW H) → Nat
  | [] => 0
  | d :: r => uptoBulk d + uptoBulkAll r
def uptoBulkEntries {H : Type} : List (Lit × DataW H) → Nat
  | [] => 0
  | x :: r => uptoBulkEntry x + uptoBulkEntries r
def uptoBulkEntry {H : Type} : Lit × DataW H → Nat
  | (.string bytes, d) => bytes.length + uptoBulk d + 1
  | (_, d) => uptoBulk d + 1
 end
def uptoSmall : (H : Type) → List (DataW H) → Bool := fun _ ds => decide (uptoBulkAll ds ≤ 1048576)
def OpenSpec.upto (s : _root_.Go.ChangeSpec) : _root_.Go.OpenSpec := { _root_.Go.OpenSpec.ofChange s with cond := some uptoSmall }

/-- 'transitlaw21.ProductChecks', WHERE WHAT IT READS IS OF BULK AT MOST 1048576: true; the input reads as it did. -/
def productChecksUptoRow : OpenClaim := { program := "ytkpmmojfnhfflaa", sum := "0a7583fd0015c1012c4837158d1538e26e4671e03f5dcb4ed7bede202018d40b", func := "transit/transitlaw21.ProductChecks", spec := "productChecks", unfollowed := true, recurses := true, apart := false, narrowed := true }
def ProductChecksUptoSaid : Prop := productChecksUptoRow.holds Try.pinned (OpenSpec.upto productChecksSpec)

/-- 'transitlaw21.ProductSelects', WHERE WHAT IT READS IS OF BULK AT MOST 1048576: true; the input reads as it did. -/
def productSelectsUptoRow : OpenClaim := { program := "ytkpmmojfnhfflaa", sum := "0a7583fd0015c1012c4837158d1538e26e4671e03f5dcb4ed7bede202018d40b", func := "transit/transitlaw21.ProductSelects", spec := "productSelects", unfollowed := true, recurses := true, apart := false, narrowed := true }
def ProductSelectsUptoSaid : Prop := productSelectsUptoRow.holds Try.pinned (OpenSpec.upto productSelectsSpec)

/-- 'transitlaw21.ProductPrices', WHERE WHAT IT READS IS OF BULK AT MOST 1048576: true; the input reads as it did. -/
def productPricesUptoRow : OpenClaim := { program := "ytkpmmojfnhfflaa", sum := "0a7583fd0015c1012c4837158d1538e26e4671e03f5dcb4ed7bede202018d40b", func := "transit/transitlaw21.ProductPrices", spec := "productPrices", unfollowed := true, recurses := true, apart := false, narrowed := true }
def ProductPricesUptoSaid : Prop := productPricesUptoRow.holds Try.pinned (OpenSpec.upto productPricesSpec)

/-- 'transitlaw21.ProductCheapest', WHERE WHAT IT READS IS OF BULK AT MOST 1048576: true; the input reads as it did. -/
def productCheapestUptoRow : OpenClaim := { program := "ytkpmmojfnhfflaa", sum := "0a7583fd0015c1012c4837158d1538e26e4671e03f5dcb4ed7bede202018d40b", func := "transit/transitlaw21.ProductCheapest", spec := "productCheapest", unfollowed := true, recurses := true, apart := false, narrowed := true }
def ProductCheapestUptoSaid : Prop := productCheapestUptoRow.holds Try.pinned (OpenSpec.upto productCheapestSpec)

/-- 'transitlaw21.ProductCovers', WHERE WHAT IT READS IS OF BULK AT MOST 1048576: true; the input reads as it did. -/
def productCoversUptoRow : OpenClaim := { program := "ytkpmmojfnhfflaa", sum := "0a7583fd0015c1012c4837158d1538e26e4671e03f5dcb4ed7bede202018d40b", func := "transit/transitlaw21.ProductCovers", spec := "productCovers", unfollowed := true, recurses := true, apart := false, narrowed := true }
def ProductCoversUptoSaid : Prop := productCoversUptoRow.holds Try.pinned (OpenSpec.upto productCoversSpec)

/-- 'transitlaw21.ProductDiscounts', WHERE WHAT IT READS IS OF BULK AT MOST 1048576: true; the input reads as it did. -/
def productDiscountsUptoRow : OpenClaim := { program := "ytkpmmojfnhfflaa", sum := "0a7583fd0015c1012c4837158d1538e26e4671e03f5dcb4ed7bede202018d40b", func := "transit/transitlaw21.ProductDiscounts", spec := "productDiscounts", unfollowed := true, recurses := true, apart := false, narrowed := true }
def ProductDiscountsUptoSaid : Prop := productDiscountsUptoRow.holds Try.pinned (OpenSpec.upto productDiscountsSpec)

end Rows
end Go.Proofs.Ytkpmmojfnhfflaa
