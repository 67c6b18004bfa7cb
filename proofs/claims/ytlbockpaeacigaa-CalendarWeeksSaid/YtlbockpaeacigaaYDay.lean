/-
  date.Valid and date.Weekday, and the reference's: what each call answers; it leaves the world as it was. Condition: none beyond lengths of 63 bits.
-/
import Derived.Test.YtlbockpaeacigaaBase
import Derived.Test.YtlbockpaeacigaaClr
namespace Go.Proofs.Ytlbockpaeacigaa
open Go.RowKit

theorem dvalid_any (n : Int) (w : World) : Calls Try.prog 35 #[.int .i64 n] w fun e w' => e = .returned (.bool (decide (dayP n))) ∧ w = w' := by
  by_cases h0 : 0 ≤ n
  · by_cases h1 : n ≤ 36524
    · have R := Lib.hid (decide_eq_true (p := dayP n) ⟨h0, h1⟩)
      go_enter Try.func35, Try.ntmps35
      go_wp2_with fail
      go_ret
      exact ⟨ret_bool R.out.symm, rfl⟩
    · have R := Lib.hid (decide_eq_false (p := dayP n) fun h => h1 h.2)
      have d1 : decide (n ≤ 36524) = false := decide_eq_false h1
      clear h1
      go_enter Try.func35, Try.ntmps35
      go_wp2_with fail
      go_ret
      exact ⟨ret_bool R.out.symm, rfl⟩
  · have R := Lib.hid (decide_eq_false (p := dayP n) fun h => h0 h.1)
    have d0 : decide (0 ≤ n) = false := decide_eq_false h0
    clear h0
    go_enter Try.func35, Try.ntmps35
    go_wp2_with fail
    go_ret
    exact ⟨ret_bool R.out.symm, rfl⟩
theorem rdvalid_any (n : Int) (w : World) : Calls Try.prog 32 #[.int .i64 n] w fun e w' => e = .returned (.bool (decide (dayP n))) ∧ w = w' := by
  by_cases h0 : 0 ≤ n
  · by_cases h1 : n ≤ 36524
    · have R := Lib.hid (decide_eq_true (p := dayP n) ⟨h0, h1⟩)
      go_enter Try.func32, Try.ntmps32
      go_wp2_with fail
      go_ret
      exact ⟨ret_bool R.out.symm, rfl⟩
    · have R := Lib.hid (decide_eq_false (p := dayP n) fun h => h1 h.2)
      have d1 : decide (n ≤ 36524) = false := decide_eq_false h1
      clear h1
      go_enter Try.func32, Try.ntmps32
      go_wp2_with fail
      go_ret
      exact ⟨ret_bool R.out.symm, rfl⟩
  · have R := Lib.hid (decide_eq_false (p := dayP n) fun h => h0 h.1)
    have d0 : decide (0 ≤ n) = false := decide_eq_false h0
    clear h0
    go_enter Try.func32, Try.ntmps32
    go_wp2_with fail
    go_ret
    exact ⟨ret_bool R.out.symm, rfl⟩
set_option maxRecDepth 100000 in
theorem weekday_any (n : Int) (h : dayP n) (w : World) : Calls Try.prog 41 #[.int .i64 n] w fun e w' => e = .returned (.tuple #[.int .i64 ((n + 5) % 7), .bool true]) ∧ w = w' := by
  obtain ⟨h0, h1⟩ := h
  have V := Lib.hid (dvalid_any n w)
  rw [decide_eq_true (p := dayP n) ⟨h0, h1⟩] at V
  go_enter Try.func41, Try.ntmps41
  go_wp2_with fail
  refine V.out.mono ?_
  rintro e w' ⟨rfl, rfl⟩
  go_wp2_with fail
  go_ret2
  exact ⟨rfl, rfl⟩
set_option maxRecDepth 100000 in
theorem rweekday_any (n : Int) (h : dayP n) (w : World) : Calls Try.prog 38 #[.int .i64 n] w fun e w' => e = .returned (.tuple #[.int .i64 ((n + 5) % 7), .bool true]) ∧ w = w' := by
  obtain ⟨h0, h1⟩ := h
  have V := Lib.hid (rdvalid_any n w)
  rw [decide_eq_true (p := dayP n) ⟨h0, h1⟩] at V
  go_enter Try.func38, Try.ntmps38
  go_wp2_with fail
  refine V.out.mono ?_
  rintro e w' ⟨rfl, rfl⟩
  go_wp2_with fail
  go_ret2
  exact ⟨rfl, rfl⟩
end Go.Proofs.Ytlbockpaeacigaa
