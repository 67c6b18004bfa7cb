/-
  The examples of the chapter on dates, as the laws ask for them: the function answers true; nothing that existed before the call has changed behind it. Condition: the tables hold what their initialisers lay.
-/
import Derived.Test.YtalghfmdaifcgaaDoorDMom
namespace Go.Proofs.YtalghfmdaifcgaaDoor
open Go.RowKit

theorem dx1 (w : World) (hg : Good w) : Calls Tryd.prog 21 #[.int .i64 2000, .int .i64 3, .int .i64 1] w fun e w' => e = .returned (.tuple #[.int .i64 60, .bool true]) ∧ w = w' := by
  have h := fromCivil_yes 2000 3 1 (by decide) w hg
  rw [show dayOf 2000 3 1 = 60 by decide] at h
  exact h
theorem dx2 (w : World) (hg : Good w) : Calls Tryd.prog 23 #[.int .i64 36524] w fun e w' => e = .returned (.tuple #[.int .i64 2099, .int .i64 12, .int .i64 31, .bool true]) ∧ w = w' := by
  have h := civil_yes 1199 36524 (by decide) (by unfold InMon; decide) w hg
  rw [show bef 1199 = 36494 by decide] at h
  exact h
theorem dx3 (w : World) (hg : Good w) : Calls Tryd.prog 27 #[.int .i64 60] w fun e w' => e = .returned (.tuple #[.string ⟨#[50, 48, 48, 48, 45, 48, 51, 45, 48, 49]⟩, .int .i64 0]) ∧ Below w.heap.size w w' := by
  have h := dformat_yes 2 60 (by decide) (by unfold InMon; decide) w hg
  rw [show dText 2 60 = [50, 48, 48, 48, 45, 48, 51, 45, 48, 49] by decide] at h
  exact h
theorem dx4 (w : World) (hg : Good w) : Calls Tryd.prog 29 #[.string ⟨#[50, 48, 48, 49, 45, 48, 50, 45, 50, 57]⟩] w fun e w' => e = .returned (.tuple #[.int .i64 0, .int .i64 11]) ∧ Below w.heap.size w w' := by
  have h := dparse_any (str [50, 48, 48, 49, 45, 48, 50, 45, 50, 57]) w hg
  rw [show dayR (str [50, 48, 48, 49, 45, 48, 50, 45, 50, 57]).data.toList = (0, 11) by decide] at h
  exact h
theorem dx5 (w : World) (hg : Good w) : Calls Tryd.prog 29 #[.string ⟨#[50, 48, 48, 49, 45, 50, 45, 50, 56]⟩] w fun e w' => e = .returned (.tuple #[.int .i64 0, .int .i64 3]) ∧ Below w.heap.size w w' := by
  have h := dparse_any (str [50, 48, 48, 49, 45, 50, 45, 50, 56]) w hg
  rw [show dayR (str [50, 48, 48, 49, 45, 50, 45, 50, 56]).data.toList = (0, 3) by decide] at h
  exact h
theorem dx6 (w : World) : Calls Tryd.prog 31 #[.int .i64 1, .int .i64 90000] w fun e w' => e = .returned (.tuple #[.int .i64 176400, .bool true]) ∧ w = w' :=
  absolute_yes 1 90000 (by decide) (by decide) (by decide) (by decide) w
theorem dx7 (w : World) : Calls Tryd.prog 33 #[.int .i64 176400] w fun e w' => e = .returned (.tuple #[.int .i64 2, .int .i64 3600, .bool true]) ∧ w = w' :=
  relative_yes 176400 (by decide) (by decide) w
theorem dx8 (w : World) (hg : Good w) : Calls Tryd.prog 35 #[.int .i64 176400] w fun e w' => e = .returned (.tuple #[.string ⟨#[50, 48, 48, 48, 45, 48, 49, 45, 48, 51, 84, 48, 49, 58, 48, 48, 58, 48, 48]⟩, .int .i64 0]) ∧ Below w.heap.size w w' := by
  have h := fmtMom_yes 176400 0 2 (by decide) (by decide) (by decide) (by unfold InMon; decide) w hg
  rw [show mText 0 2 (176400 % 86400) = [50, 48, 48, 48, 45, 48, 49, 45, 48, 51, 84, 48, 49, 58, 48, 48, 58, 48, 48] by decide] at h
  exact h
theorem dx9 (w : World) (hg : Good w) : Calls Tryd.prog 37 #[.string ⟨#[50, 48, 48, 48, 45, 48, 49, 45, 48, 51, 84, 50, 52, 58, 48, 48, 58, 48, 48]⟩] w fun e w' => e = .returned (.tuple #[.int .i64 0, .int .i64 10]) ∧ Below w.heap.size w w' := by
  have h := dmom_any [50, 48, 48, 48, 45, 48, 49, 45, 48, 51, 84, 50, 52, 58, 48, 48, 58, 48, 48] w hg
  rw [show momR [50, 48, 48, 48, 45, 48, 49, 45, 48, 51, 84, 50, 52, 58, 48, 48, 58, 48, 48] = (0, 10) by decide] at h
  exact h
theorem dx10 (w : World) (hg : Good w) : Calls Tryd.prog 14 #[.int .i64 2024, .int .i64 2] w fun e w' => e = .returned (.tuple #[.int .i64 29, .bool true]) ∧ w = w' :=
  days_yes 2024 2 24 1 (by decide) (by decide) (by decide) (by decide) w hg

set_option maxRecDepth 10000 in
set_option maxHeartbeats 2000000 in
theorem example_holds (w : World) (hg : Good w) : Calls Tryd.prog 20 #[] w fun e w' => e = .returned (.bool true) ∧ Below w.heap.size w w' := by
  go_enter Tryd.func20, Tryd.ntmps20
  go_wp2_with fail
  refine (dx1 _ hg).mono ?_
  rintro e w1 ⟨rfl, rfl⟩
  go_wp2_with fail
  refine (dx2 _ hg).mono ?_
  rintro e w1 ⟨rfl, rfl⟩
  go_wp2_with fail
  refine (weekday_yes 0 (by decide) (by decide) _).mono ?_
  rintro e w1 ⟨rfl, rfl⟩
  go_wp2_with fail
  refine (weekday_yes 2 (by decide) (by decide) _).mono ?_
  rintro e w1 ⟨rfl, rfl⟩
  go_wp2_with fail
  refine (dx3 _ hg).mono ?_
  rintro e w1 ⟨rfl, b1⟩
  go_wp2_with fail
  refine (rel (W := w) (dx4 _ (hg.below b1)) b1).mono ?_
  rintro e w2 ⟨rfl, b2⟩
  clear b1
  go_wp2_with fail
  refine (rel (W := w) (dx5 _ (hg.below b2)) b2).mono ?_
  rintro e w3 ⟨rfl, b3⟩
  clear b2
  go_wp2_with fail
  refine (dx6 _).mono ?_
  rintro e w4 ⟨rfl, rfl⟩
  go_wp2_with fail
  refine (dx7 _).mono ?_
  rintro e w4 ⟨rfl, rfl⟩
  go_wp2_with fail
  refine (rel (W := w) (dx8 _ (hg.below b3)) b3).mono ?_
  rintro e w5 ⟨rfl, b5⟩
  clear b3
  go_wp2_with fail
  refine (rel (W := w) (dx9 _ (hg.below b5)) b5).mono ?_
  rintro e w6 ⟨rfl, b6⟩
  clear b5
  go_wp2_with fail
  refine (dx10 _ (hg.below b6)).mono ?_
  rintro e w7 ⟨rfl, rfl⟩
  go_wp2_with fail
  refine (leap_is 2024 true (by decide) _).mono ?_
  rintro e w7 ⟨rfl, rfl⟩
  go_wp2_with fail
  refine (leap_is 2100 false (by decide) _).mono ?_
  rintro e w7 ⟨rfl, rfl⟩
  go_wp2_with fail
  refine (dvalid_yes 36524 (by decide) (by decide) _).mono ?_
  rintro e w7 ⟨rfl, rfl⟩
  go_wp2_with fail
  refine (dvalid_no 36525 (by decide) _).mono ?_
  rintro e w7 ⟨rfl, rfl⟩
  go_wp2_with fail
  go_ret
  exact ⟨rfl, b6⟩
end Go.Proofs.YtalghfmdaifcgaaDoor
