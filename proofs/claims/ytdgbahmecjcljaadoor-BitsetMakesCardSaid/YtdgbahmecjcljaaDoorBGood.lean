/-
  From the rows' condition that the listed table reads as listed to what the walks ask. Condition: none beyond each theorem's own hypotheses.
-/
import Derived.Test.YtdgbahmecjcljaaDoorBLaw3
import Derived.Test.YtdgbahmecjcljaaDoorOpenI
import Derived.Stop.LaidErr
namespace Go.Proofs.YtdgbahmecjcljaaDoor
open Go.RowKit

theorem good_of_laid {W : World} (h : laidMet Tryd.prog [("math/bits.deBruijn64tab", Rows.laid_math_bits_deBruijn64tab)] W) : Good W :=
  Lib.tabIs_of_head (k := .u8) (zs := tab64) (rest := []) (t := 54) (e := 5) (n := 64) gTab (by kernel_rfl) (by kernel_rfl) (by kernel_rfl) (by kernel_rfl) (by kernel_rfl) h
end Go.Proofs.YtdgbahmecjcljaaDoor
