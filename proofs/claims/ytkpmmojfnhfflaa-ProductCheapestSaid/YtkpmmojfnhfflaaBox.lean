/-
  Boxes of variables: what they hold where nothing of theirs has changed. Condition: none.
-/
import Derived.Test.YtkpmmojfnhfflaaOwnI
import Derived.RangeFuncBox
import Derived.RangeFuncNested
namespace Go.Proofs.Ytkpmmojfnhfflaa
open Go.RowKit

theorem Boxed.low {W W' : World} {B b : Nat} {t : TypeId} {v : Value} (h : Boxed W b t v) (hb : Below B W W') (hlt : b < B) : Boxed W' b t v := (hb.block b hlt).trans h
end Go.Proofs.Ytkpmmojfnhfflaa
