/-
  The laws that are proved over heaps of pairs, ready for their rows. Condition: none.
-/
import Derived.Test.YtnmomkldlajimaaHOpen
import Derived.Test.YtnmomkldlajimaaHKeep
import Derived.Test.YtnmomkldlajimaaHPops
import Derived.Test.YtnmomkldlajimaaHSrt
namespace Go.Proofs.Ytnmomkldlajimaa
open Go.RowKit
theorem nil_row (v : Value) (l : List Pr) (hn : l.length ≤ 9223372036854775807) (_ : ∀ a ∈ l, Ok2 a) (w : World) (h : LstP w v l) : Calls Try.prog 9 #[v] w fun e w' => e = .returned (.bool true) ∧ Below w.heap.size w w' := nil_law v l hn w h
end Go.Proofs.Ytnmomkldlajimaa
