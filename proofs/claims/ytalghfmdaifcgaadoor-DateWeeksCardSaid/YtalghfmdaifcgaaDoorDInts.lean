/-
  The functions of package date and of its reference that compute with numbers alone: what each call answers; it leaves the world as it was. Condition: the table of the months' lengths holds what its initialiser lays, where a theorem names it.
-/
import Derived.Test.YtalghfmdaifcgaaDoorInts
import Derived.Test.YtalghfmdaifcgaaDoorDates
import Derived.WalkSmall
import Derived.Lib.Hide
import Derived.Lib.LaidTab
import Derived.Lib.ItoaNum
namespace Go.Proofs.YtalghfmdaifcgaaDoor
open Go.RowKit

/-- The lengths of the months of a common year. -/
def lens : List Int := [31, 28, 31, 30, 31, 30, 31, 31, 30, 31, 30, 31]
/-- The tables hold what their initialisers lay. -/
def Good (w : World) : Prop := Lib.TabIs Tryd.prog w "transit/date.monthLengths" .i64 lens ∧ Lib.TabIs Tryd.prog w "internal/strconv.uint64pow10" .u64 Lib.pow10Tab
theorem gLens : Tryd.prog.globalNamed "transit/date.monthLengths" = some 0 := by kernel_rfl
theorem gPow : Tryd.prog.globalNamed "internal/strconv.uint64pow10" = some 1 := by kernel_rfl
theorem var_size {w : World} {n : String} {g : Nat} {cs : Array Value} (hg : Tryd.prog.globalNamed n = some g) (h : w.var? Tryd.prog n = some cs) : g < w.heap.size := by
  unfold World.var? at h
  simp only [hg, Option.bind_some] at h
  by_cases hs : g < w.heap.size
  · exact hs
  · rw [Array.getElem?_eq_none (by omega)] at h
    cases h
theorem Good.below {w w' : World} (h : Good w) (b : Below w.heap.size w w') : Good w' :=
  ⟨var?_below b gLens (var_size gLens h.1) h.1, var?_below b gPow (var_size gPow h.2) h.2⟩
theorem Good.month {w : World} (h : Good w) (r : Nat) (hr : r < 12) : w.cell? ⟨0, r, none⟩ = some (.int .i64 (lens.getD r 0)) := h.1.cell gLens r hr

theorem dvalid_yes (n : Int) (h0 : 0 ≤ n) (h1 : n ≤ 36524) (w : World) :
    Calls Tryd.prog 16 #[.int .i64 n] w fun e w' => e = .returned (.bool true) ∧ w = w' := by
  go_enter Tryd.func16, Tryd.ntmps16
  go_wp2
  go_ret
  exact ⟨rfl, rfl⟩
theorem dvalid_no (n : Int) (h : n < 0 ∨ 36524 < n) (w : World) :
    Calls Tryd.prog 16 #[.int .i64 n] w fun e w' => e = .returned (.bool false) ∧ w = w' := by
  rcases h with h | h
  · go_enter Tryd.func16, Tryd.ntmps16
    go_wp2
    go_ret
    exact ⟨rfl, rfl⟩
  · have h0 : 0 ≤ n := by omega
    have hd : decide (n ≤ 36524) = false := by simp; omega
    go_enter Tryd.func16, Tryd.ntmps16
    go_wp2
    go_ret
    exact ⟨rfl, rfl⟩
theorem rdvalid_yes (n : Int) (h0 : 0 ≤ n) (h1 : n ≤ 36524) (w : World) :
    Calls Tryd.prog 17 #[.int .i64 n] w fun e w' => e = .returned (.bool true) ∧ w = w' := by
  go_enter Tryd.func17, Tryd.ntmps17
  go_wp2
  go_ret
  exact ⟨rfl, rfl⟩
theorem rdvalid_no (n : Int) (h : n < 0 ∨ 36524 < n) (w : World) :
    Calls Tryd.prog 17 #[.int .i64 n] w fun e w' => e = .returned (.bool false) ∧ w = w' := by
  rcases h with h | h
  · go_enter Tryd.func17, Tryd.ntmps17
    go_wp2
    go_ret
    exact ⟨rfl, rfl⟩
  · have h0 : 0 ≤ n := by omega
    have hd : decide (n ≤ 36524) = false := by simp; omega
    go_enter Tryd.func17, Tryd.ntmps17
    go_wp2
    go_ret
    exact ⟨rfl, rfl⟩

theorem isYear_yes (y : Int) (h0 : 2000 ≤ y) (h1 : y ≤ 2099) (w : World) :
    Calls Tryd.prog 40 #[.int .i64 y] w fun e w' => e = .returned (.bool true) ∧ w = w' := by
  go_enter Tryd.func40, Tryd.ntmps40
  go_wp2
  go_ret
  exact ⟨rfl, rfl⟩
theorem isYear_no (y : Int) (h : y < 2000 ∨ 2099 < y) (w : World) :
    Calls Tryd.prog 40 #[.int .i64 y] w fun e w' => e = .returned (.bool false) ∧ w = w' := by
  rcases h with h | h
  · go_enter Tryd.func40, Tryd.ntmps40
    go_wp2
    go_ret
    exact ⟨rfl, rfl⟩
  · have h0 : 2000 ≤ y := by omega
    have hd : decide (y ≤ 2099) = false := by simp; omega
    go_enter Tryd.func40, Tryd.ntmps40
    go_wp2
    go_ret
    exact ⟨rfl, rfl⟩

/-- A year is a leap year from 2000 to 2099. -/
def leapB (y : Int) : Bool := decide (2000 ≤ y ∧ y ≤ 2099 ∧ y % 4 = 0)
theorem leapB_in (y : Int) (h0 : 2000 ≤ y) (h1 : y ≤ 2099) : (y % 4 == 0) = leapB y := by
  unfold leapB
  rw [Bool.eq_iff_iff, beq_iff_eq, decide_eq_true_eq]
  omega
theorem leapB_out (y : Int) (h : y < 2000 ∨ 2099 < y) : leapB y = false := by
  unfold leapB
  rw [decide_eq_false_iff_not]
  omega
theorem ret_bool {a b : Bool} (h : a = b) : Ending.returned (.bool a) = .returned (.bool b) := by rw [h]
theorem leap_any (y : Int) (w : World) :
    Calls Tryd.prog 18 #[.int .i64 y] w fun e w' => e = .returned (.bool (leapB y)) ∧ w = w' := by
  by_cases h : 2000 ≤ y ∧ y ≤ 2099
  · obtain ⟨h0, h1⟩ := h
    have hb := Lib.hid (leapB_in y h0 h1)
    go_enter Tryd.func18, Tryd.ntmps18
    go_wp2_with (go_at_call 40; refine (isYear_yes _ h0 h1 _).mono ?_; rintro e w' ⟨rfl, rfl⟩)
    go_ret
    exact ⟨ret_bool hb.out, rfl⟩
  · have h : y < 2000 ∨ 2099 < y := by omega
    rw [leapB_out y h]
    go_enter Tryd.func18, Tryd.ntmps18
    go_wp2_with (go_at_call 40; refine (isYear_no _ h _).mono ?_; rintro e w' ⟨rfl, rfl⟩)
    go_ret
    exact ⟨rfl, rfl⟩
theorem rleap_any (y : Int) (w : World) :
    Calls Tryd.prog 19 #[.int .i64 y] w fun e w' => e = .returned (.bool (leapB y)) ∧ w = w' := by
  by_cases h : 2000 ≤ y ∧ y ≤ 2099
  · obtain ⟨h0, h1⟩ := h
    have hb := Lib.hid (leapB_in y h0 h1)
    have g1 : decide (y ≤ 2099) = true := by simp; omega
    go_enter Tryd.func19, Tryd.ntmps19
    go_wp2
    go_ret
    exact ⟨ret_bool hb.out, rfl⟩
  · by_cases h0 : y < 2000
    · rw [leapB_out y (Or.inl h0)]
      go_enter Tryd.func19, Tryd.ntmps19
      go_wp2
      go_ret
      exact ⟨rfl, rfl⟩
    · rw [leapB_out y (by omega)]
      have h0 : 2000 ≤ y := by omega
      have hd : decide (y ≤ 2099) = false := by simp; omega
      go_enter Tryd.func19, Tryd.ntmps19
      go_wp2
      go_ret
      exact ⟨rfl, rfl⟩

theorem leap_is (y : Int) (b : Bool) (h : leapB y = b) (w : World) :
    Calls Tryd.prog 18 #[.int .i64 y] w fun e w' => e = .returned (.bool b) ∧ w = w' := by
  rw [← h]
  exact leap_any y w
theorem rleap_is (y : Int) (b : Bool) (h : leapB y = b) (w : World) :
    Calls Tryd.prog 19 #[.int .i64 y] w fun e w' => e = .returned (.bool b) ∧ w = w' := by
  rw [← h]
  exact rleap_any y w
theorem leapB_q (y : Int) (q : Nat) (hy : y = 2000 + q) (hq : q < 100) : leapB y = decide (q % 4 = 0) := by
  unfold leapB
  rw [Bool.eq_iff_iff, decide_eq_true_eq, decide_eq_true_eq]
  omega
theorem lens_mon (q r : Nat) (hr : r < 12) (h : ¬ (r = 1 ∧ q % 4 = 0)) : lens.getD r 0 = (monN q r : Int) := by
  unfold monN leapN
  match r, hr with
  | 0, _ | 2, _ | 3, _ | 4, _ | 5, _ | 6, _ | 7, _ | 8, _ | 9, _ | 10, _ | 11, _ => rfl
  | 1, _ => rw [if_pos rfl, if_neg (fun hq => h ⟨rfl, hq⟩)]; rfl
theorem mon_feb (q : Nat) (h : q % 4 = 0) : monN q 1 = 29 := by
  unfold monN leapN
  rw [if_pos rfl, if_pos h]
theorem monthLength_any (y m : Int) (q r : Nat) (hy : y = 2000 + q) (hq : q < 100) (hm : m = 1 + r) (hr : r < 12) (w : World) (hg : Good w) :
    Calls Tryd.prog 41 #[.int .i64 y, .int .i64 m] w fun e w' => e = .returned (.int .i64 (monN q r)) ∧ w = w' := by
  have hc := hg.month r hr
  have hl := leapB_q y q hy hq
  clear hy
  subst hm
  by_cases h2 : r = 1
  · subst h2
    by_cases h4 : q % 4 = 0
    · rw [show decide (q % 4 = 0) = true by simpa using h4] at hl
      have e := Lib.hid (mon_feb q h4)
      rw [show lens.getD 1 0 = 28 from rfl] at hc
      go_enter Tryd.func41, Tryd.ntmps41
      go_wp2_with (go_at_call 18; refine (leap_is _ _ hl _).mono ?_; rintro e w' ⟨rfl, rfl⟩)
      go_ret
      exact ⟨by rw [e.out]; rfl, rfl⟩
    · rw [show decide (q % 4 = 0) = false by simpa using h4] at hl
      have e := Lib.hid (lens_mon q 1 hr (by omega))
      rw [e.out] at hc
      go_enter Tryd.func41, Tryd.ntmps41
      go_wp2_with (go_at_call 18; refine (leap_is _ _ hl _).mono ?_; rintro e w' ⟨rfl, rfl⟩)
      go_ret
      exact ⟨rfl, rfl⟩
  · have e := Lib.hid (lens_mon q r hr (by omega))
    rw [e.out] at hc
    have hn : (1 + (r : Int) == 2) = false := by rw [beq_eq_false_iff_ne]; omega
    clear hl
    go_enter Tryd.func41, Tryd.ntmps41
    go_wp2_with fail
    go_ret
    exact ⟨rfl, rfl⟩

theorem days_yes (y m : Int) (q r : Nat) (hy : y = 2000 + q) (hq : q < 100) (hm : m = 1 + r) (hr : r < 12) (w : World) (hg : Good w) :
    Calls Tryd.prog 14 #[.int .i64 y, .int .i64 m] w fun e w' => e = .returned (.tuple #[.int .i64 (monN q r), .bool true]) ∧ w = w' := by
  have h1 : ¬ m < 1 := by omega
  have h2 : ¬ 12 < m := by omega
  have y0 : 2000 ≤ y := by omega
  have y1 : y ≤ 2099 := by omega
  have HY := Lib.hid hy
  have HM := Lib.hid hm
  clear hy hm
  go_enter Tryd.func14, Tryd.ntmps14
  go_wp2_with (first | (go_at_call 40; refine (isYear_yes y y0 y1 _).mono ?_; rintro e w' ⟨rfl, rfl⟩) | (go_at_call 41; refine (monthLength_any y m q r HY.out hq HM.out hr _ hg).mono ?_; rintro e w' ⟨rfl, rfl⟩))
  go_ret2
  exact ⟨rfl, rfl⟩
theorem days_no (y m : Int) (h : y < 2000 ∨ 2099 < y ∨ m < 1 ∨ 12 < m) (w : World) :
    Calls Tryd.prog 14 #[.int .i64 y, .int .i64 m] w fun e w' => e = .returned (.tuple #[.int .i64 0, .bool false]) ∧ w = w' := by
  by_cases hy : y < 2000 ∨ 2099 < y
  · go_enter Tryd.func14, Tryd.ntmps14
    go_wp2_with (go_at_call 40; refine (isYear_no _ hy _).mono ?_; rintro e w' ⟨rfl, rfl⟩)
    go_ret2
    exact ⟨rfl, rfl⟩
  · by_cases hm : m < 1
    · go_enter Tryd.func14, Tryd.ntmps14
      go_wp2_with (go_at_call 40; refine (isYear_yes _ (by omega) (by omega) _).mono ?_; rintro e w' ⟨rfl, rfl⟩)
      go_ret2
      exact ⟨rfl, rfl⟩
    · have hm2 : 12 < m := by omega
      go_enter Tryd.func14, Tryd.ntmps14
      go_wp2_with (go_at_call 40; refine (isYear_yes _ (by omega) (by omega) _).mono ?_; rintro e w' ⟨rfl, rfl⟩)
      go_ret2
      exact ⟨rfl, rfl⟩
end Go.Proofs.YtalghfmdaifcgaaDoor
