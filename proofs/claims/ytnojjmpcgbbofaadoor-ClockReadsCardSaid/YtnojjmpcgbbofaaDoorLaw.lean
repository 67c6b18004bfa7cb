/-
  The examples of the chapter on clocks, as the laws ask for them: the function answers true; nothing that existed before the call has changed behind it. Condition: none.
-/
import Derived.Test.YtnojjmpcgbbofaaDoorDur
import Derived.Test.YtnojjmpcgbbofaaDoorRParse
namespace Go.Proofs.YtnojjmpcgbbofaaDoor
open Go.RowKit

theorem ex_format (w : World) : Calls Tryd.prog 18 #[.int .i64 93600] w fun e w' => e = .returned (.tuple #[.string ⟨#[50, 54, 58, 48, 48, 58, 48, 48]⟩, .int .i64 0]) ∧ Below w.heap.size w w' :=
  format_yes 93600 (by decide) (by decide) w
theorem ex_parse1 (w : World) : Calls Tryd.prog 20 #[.string ⟨#[48, 56, 58, 48, 53, 58, 48, 48]⟩] w fun e w' => e = .returned (.tuple #[.int .i64 29100, .int .i64 0]) ∧ Below w.heap.size w w' :=
  parse_any ⟨#[48, 56, 58, 48, 53, 58, 48, 48]⟩ w
theorem ex_parse2 (w : World) : Calls Tryd.prog 20 #[.string ⟨#[56, 58, 48, 53, 58, 48, 48]⟩] w fun e w' => e = .returned (.tuple #[.int .i64 0, .int .i64 3]) ∧ Below w.heap.size w w' :=
  parse_any ⟨#[56, 58, 48, 53, 58, 48, 48]⟩ w
theorem ex_parse3 (w : World) : Calls Tryd.prog 20 #[.string ⟨#[52, 56, 58, 48, 48, 58, 48, 49]⟩] w fun e w' => e = .returned (.tuple #[.int .i64 0, .int .i64 10]) ∧ Below w.heap.size w w' :=
  parse_any ⟨#[52, 56, 58, 48, 48, 58, 48, 49]⟩ w
theorem ex_dur (w : World) : Calls Tryd.prog 22 #[.int .i64 3930] w fun e w' => e = .returned (.tuple #[.string ⟨#[49, 104, 48, 53, 109, 51, 48, 115]⟩, .int .i64 0]) ∧ Below w.heap.size w w' := by
  have h := fmtDur_yes 3930 (by decide) (by decide) w
  have e : durText 3930 = [49, 104, 48, 53, 109, 51, 48, 115] := by
    unfold durText
    rw [if_pos (by decide), dec_one _ (by decide)]
    decide
  rw [e] at h
  exact h
theorem ex_read1 (w : World) : Calls Tryd.prog 24 #[.string ⟨#[57, 48, 109, 48, 48, 115]⟩] w fun e w' => e = .returned (.tuple #[.int .i64 0, .int .i64 3]) ∧ Below w.heap.size w w' :=
  parseDur_any [57, 48, 109, 48, 48, 115] (by decide) w
theorem ex_read2 (w : World) : Calls Tryd.prog 24 #[.string ⟨#[49, 48, 48, 104, 48, 48, 109, 48, 48, 115]⟩] w fun e w' => e = .returned (.tuple #[.int .i64 0, .int .i64 2]) ∧ Below w.heap.size w w' :=
  parseDur_any [49, 48, 48, 104, 48, 48, 109, 48, 48, 115] (by decide) w

theorem example_holds (w : World) : Calls Tryd.prog 15 #[] w fun e w' => e = .returned (.bool true) ∧ Below w.heap.size w w' := by
  go_enter Tryd.func15, Tryd.ntmps15
  go_wp2_with fail
  refine (ex_format _).mono ?_
  rintro e w1 ⟨rfl, b1⟩
  go_wp2_with fail
  refine (rel (W := w) (ex_parse1 _) (by assumption)).mono ?_
  rintro e w2 ⟨rfl, b2⟩
  clear b1
  go_wp2_with fail
  refine (rel (W := w) (ex_parse2 _) (by assumption)).mono ?_
  rintro e w3 ⟨rfl, b3⟩
  clear b2
  go_wp2_with fail
  refine (rel (W := w) (ex_parse3 _) (by assumption)).mono ?_
  rintro e w4 ⟨rfl, b4⟩
  clear b3
  go_wp2_with fail
  refine (rel (W := w) (ex_dur _) (by assumption)).mono ?_
  rintro e w5 ⟨rfl, b5⟩
  clear b4
  go_wp2_with fail
  refine (rel (W := w) (ex_read1 _) (by assumption)).mono ?_
  rintro e w6 ⟨rfl, b6⟩
  clear b5
  go_wp2_with fail
  refine (rel (W := w) (ex_read2 _) (by assumption)).mono ?_
  rintro e w7 ⟨rfl, b7⟩
  clear b6
  go_wp2_with fail
  go_ret
  exact ⟨rfl, b7⟩
end Go.Proofs.YtnojjmpcgbbofaaDoor
