/-
  From the rows' condition that the listed variables read as listed to what the walks ask; the ranges of integers that came in. Condition: none beyond each theorem's own hypotheses.
-/
import Derived.Test.YtalghfmdaifcgaaDoorDLaws
import Derived.Stop.LaidErr
namespace Go.Proofs.YtalghfmdaifcgaaDoor
open Go.RowKit

theorem good_of_laid {W : World} (h : laidMet Tryd.prog [("math/bits.deBruijn32tab", Rows.laid_math_bits_deBruijn32tab), ("math/bits.deBruijn64tab", Rows.laid_math_bits_deBruijn64tab), ("internal/strconv.uint64pow10", Rows.laid_internal_strconv_uint64pow10), ("transit/date.monthLengths", Rows.laid_transit_date_monthLengths)] W) : Good W := by
  have h3 := h.tail.tail
  have h4 := h3.tail
  exact ⟨Lib.tabIs_of_head (k := .i64) (zs := lens) (rest := []) (t := 54) (e := 3) (n := 12) gLens (by kernel_rfl) (by kernel_rfl) (by kernel_rfl) (by kernel_rfl) (by kernel_rfl) h4,
    Lib.tabIs_of_head (k := .u64) (zs := Lib.pow10Tab) (t := 80) (e := 65) (n := 20) gPow (by kernel_rfl) (by kernel_rfl) (by kernel_rfl) (by kernel_rfl) (by kernel_rfl) h3⟩
theorem int_top {n : Int} (h : (Lit.int .i64 n).wf = true) : n ≤ 9223372036854775807 := by
  unfold Lit.wf at h
  rw [Bool.and_eq_true, decide_eq_true_eq, decide_eq_true_eq] at h
  exact h.2
end Go.Proofs.YtalghfmdaifcgaaDoor
