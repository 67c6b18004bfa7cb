/-
  The laws that hold package date against its reference: each answers true for every input; nothing that existed before the call has changed behind it. Condition: the tables hold what their initialisers lay.
-/
import Derived.Test.YtalghfmdaifcgaaDoorDLaw
namespace Go.Proofs.YtalghfmdaifcgaaDoor
open Go.RowKit

theorem valid_is (n : Int) : ∃ b : Bool, (∀ w, Calls Tryd.prog 16 #[.int .i64 n] w fun e w' => e = .returned (.bool b) ∧ w = w') ∧ ∀ w, Calls Tryd.prog 17 #[.int .i64 n] w fun e w' => e = .returned (.bool b) ∧ w = w' := by
  by_cases h : 0 ≤ n ∧ n ≤ 36524
  · exact ⟨true, dvalid_yes n h.1 h.2, rdvalid_yes n h.1 h.2⟩
  · exact ⟨false, dvalid_no n (by omega), rdvalid_no n (by omega)⟩
theorem days_is (y m : Int) : ∃ (n : Int) (b : Bool), (∀ w, Good w → Calls Tryd.prog 14 #[.int .i64 y, .int .i64 m] w fun e w' => e = .returned (.tuple #[.int .i64 n, .bool b]) ∧ w = w') ∧
    ∀ w, Calls Tryd.prog 15 #[.int .i64 y, .int .i64 m] w fun e w' => e = .returned (.tuple #[.int .i64 n, .bool b]) ∧ w = w' := by
  by_cases h : y < 2000 ∨ 2099 < y ∨ m < 1 ∨ 12 < m
  · exact ⟨0, false, fun w _ => days_no y m h w, rdays_no y m h⟩
  · exact ⟨_, true, days_yes y m (y - 2000).toNat (m - 1).toNat (by omega) (by omega) (by omega) (by omega), rdays_yes y m (y - 2000).toNat (m - 1).toNat (by omega) (by omega) (by omega) (by omega)⟩
theorem fromCivil_is (y m d : Int) : ∃ (n : Int) (b : Bool), (∀ w, Good w → Calls Tryd.prog 21 #[.int .i64 y, .int .i64 m, .int .i64 d] w fun e w' => e = .returned (.tuple #[.int .i64 n, .bool b]) ∧ w = w') ∧
    ∀ w, Calls Tryd.prog 22 #[.int .i64 y, .int .i64 m, .int .i64 d] w fun e w' => e = .returned (.tuple #[.int .i64 n, .bool b]) ∧ w = w' := by
  by_cases h : IsDate y m d
  · exact ⟨_, true, fromCivil_yes y m d h, rfromCivil_yes y m d h⟩
  · exact ⟨0, false, fromCivil_no y m d h, rfromCivil_no y m d h⟩
theorem civil_is (n : Int) : ∃ (y m d : Int) (b : Bool), (∀ w, Good w → Calls Tryd.prog 23 #[.int .i64 n] w fun e w' => e = .returned (.tuple #[.int .i64 y, .int .i64 m, .int .i64 d, .bool b]) ∧ w = w') ∧
    ∀ w, Calls Tryd.prog 24 #[.int .i64 n] w fun e w' => e = .returned (.tuple #[.int .i64 y, .int .i64 m, .int .i64 d, .bool b]) ∧ w = w' := by
  by_cases h : 0 ≤ n ∧ n ≤ 36524
  · obtain ⟨k, rfl⟩ : ∃ k : Nat, n = k := ⟨n.toNat, by omega⟩
    obtain ⟨i, hi, hm⟩ := month_day k (by omega)
    exact ⟨_, _, _, true, civil_yes i k hi hm, rcivil_yes i k hi hm⟩
  · exact ⟨0, 0, 0, false, fun w _ => civil_no n (by omega) w, rcivil_no n (by omega)⟩
theorem weekday_is (n : Int) : ∃ (v : Int) (b : Bool), (∀ w, Calls Tryd.prog 25 #[.int .i64 n] w fun e w' => e = .returned (.tuple #[.int .i64 v, .bool b]) ∧ w = w') ∧
    ∀ w, Calls Tryd.prog 26 #[.int .i64 n] w fun e w' => e = .returned (.tuple #[.int .i64 v, .bool b]) ∧ w = w' := by
  by_cases h : 0 ≤ n ∧ n ≤ 36524
  · exact ⟨_, true, weekday_yes n h.1 h.2, rweekday_yes n h.1 h.2⟩
  · exact ⟨0, false, weekday_no n (by omega), rweekday_no n (by omega)⟩
theorem format_is (n : Int) : ∃ (l : List UInt8) (x : Int), (∀ w, Good w → Calls Tryd.prog 27 #[.int .i64 n] w fun e w' => e = .returned (.tuple #[.string (str l), .int .i64 x]) ∧ Below w.heap.size w w') ∧
    ∀ w, Calls Tryd.prog 28 #[.int .i64 n] w fun e w' => e = .returned (.tuple #[.string (str l), .int .i64 x]) ∧ Below w.heap.size w w' := by
  by_cases h : 0 ≤ n ∧ n ≤ 36524
  · obtain ⟨k, rfl⟩ : ∃ k : Nat, n = k := ⟨n.toNat, by omega⟩
    obtain ⟨i, hi, hm⟩ := month_day k (by omega)
    exact ⟨_, _, dformat_yes i k hi hm, rdformat_yes i k hi hm⟩
  · exact ⟨_, _, fun w _ => still (dformat_no n (by omega) w), fun w => still (rdformat_no n (by omega) w)⟩
theorem absolute_is (n t : Int) : ∃ (v : Int) (b : Bool), (∀ w, Calls Tryd.prog 31 #[.int .i64 n, .int .i64 t] w fun e w' => e = .returned (.tuple #[.int .i64 v, .bool b]) ∧ w = w') ∧
    ∀ w, Calls Tryd.prog 32 #[.int .i64 n, .int .i64 t] w fun e w' => e = .returned (.tuple #[.int .i64 v, .bool b]) ∧ w = w' := by
  by_cases h : (0 ≤ n ∧ n ≤ 36524) ∧ 0 ≤ t ∧ t ≤ 172800
  · exact ⟨_, true, absolute_yes n t h.1.1 h.1.2 h.2.1 h.2.2, rabsolute_yes n t h.1.1 h.1.2 h.2.1 h.2.2⟩
  · exact ⟨0, false, absolute_no n t (by omega), rabsolute_no n t (by omega)⟩
theorem relative_is (a : Int) (ha : a ≤ 9223372036854775807) : ∃ (n t : Int) (b : Bool), (∀ w, Calls Tryd.prog 33 #[.int .i64 a] w fun e w' => e = .returned (.tuple #[.int .i64 n, .int .i64 t, .bool b]) ∧ w = w') ∧
    ∀ w, Calls Tryd.prog 34 #[.int .i64 a] w fun e w' => e = .returned (.tuple #[.int .i64 n, .int .i64 t, .bool b]) ∧ w = w' := by
  by_cases h : 0 ≤ a ∧ a / 86400 ≤ 36524
  · exact ⟨_, _, true, relative_yes a h.1 h.2, rrelative_yes a h.1 h.2⟩
  · exact ⟨0, 0, false, relative_no a ha (by omega), rrelative_no a ha (by omega)⟩
theorem fmtMom_is (a : Int) (ha : a ≤ 9223372036854775807) : ∃ (l : List UInt8) (x : Int), (∀ w, Good w → Calls Tryd.prog 35 #[.int .i64 a] w fun e w' => e = .returned (.tuple #[.string (str l), .int .i64 x]) ∧ Below w.heap.size w w') ∧
    ∀ w, Calls Tryd.prog 36 #[.int .i64 a] w fun e w' => e = .returned (.tuple #[.string (str l), .int .i64 x]) ∧ Below w.heap.size w w' := by
  by_cases h : 0 ≤ a ∧ a / 86400 ≤ 36524
  · obtain ⟨k, hk⟩ : ∃ k : Nat, a / 86400 = k := ⟨(a / 86400).toNat, by omega⟩
    obtain ⟨i, hi, hm⟩ := month_day k (by omega)
    exact ⟨_, _, fmtMom_yes a i k h.1 hk hi hm, rfmtMom_yes a i k h.1 hk hi hm⟩
  · exact ⟨_, _, fun w _ => still (fmtMom_no a ha (by omega) w), fun w => still (rfmtMom_no a ha (by omega) w)⟩

theorem months_law (d y m : Int) (w : World) (hg : Good w) :
    Calls Tryd.prog 3 #[.int .i64 d, .int .i64 y, .int .i64 m] w fun e w' => e = .returned (.bool true) ∧ Below w.heap.size w w' := by
  obtain ⟨n, b, c1, c2⟩ := days_is y m
  obtain ⟨v, c3, c4⟩ := valid_is d
  have C1 := Lib.hid c1
  have C2 := Lib.hid c2
  have C3 := Lib.hid c3
  have C4 := Lib.hid c4
  have C5 := Lib.hid (leap_any y)
  have C6 := Lib.hid (rleap_any y)
  generalize leapB y = l at C5 C6
  clear c1 c2 c3 c4
  go_enter Tryd.func3, Tryd.ntmps3
  go_wp2_with fail
  refine (C1.out _ hg).mono ?_
  rintro e w1 ⟨rfl, rfl⟩
  go_wp2_with fail
  refine (C2.out _).mono ?_
  rintro e w1 ⟨rfl, rfl⟩
  go_wp2_with fail
  refine (C3.out _).mono ?_
  rintro e w1 ⟨rfl, rfl⟩
  go_wp2_with fail
  refine (C4.out _).mono ?_
  rintro e w1 ⟨rfl, rfl⟩
  go_wp2_with fail
  refine (C5.out _).mono ?_
  rintro e w1 ⟨rfl, rfl⟩
  go_wp2_with fail
  refine (C6.out _).mono ?_
  rintro e w1 ⟨rfl, rfl⟩
  go_wp2_with fail
  refine (example_holds _ hg).mono ?_
  rintro e w1 ⟨rfl, b1⟩
  go_wp2_with fail
  go_ret
  exact ⟨rfl, b1⟩
theorem fromCivils_law (y m d : Int) (w : World) (hg : Good w) :
    Calls Tryd.prog 4 #[.int .i64 y, .int .i64 m, .int .i64 d] w fun e w' => e = .returned (.bool true) ∧ Below w.heap.size w w' := by
  obtain ⟨n, b, c1, c2⟩ := fromCivil_is y m d
  have C1 := Lib.hid c1
  have C2 := Lib.hid c2
  clear c1 c2
  go_enter Tryd.func4, Tryd.ntmps4
  go_wp2_with fail
  refine (C1.out _ hg).mono ?_
  rintro e w1 ⟨rfl, rfl⟩
  go_wp2_with fail
  refine (C2.out _).mono ?_
  rintro e w1 ⟨rfl, rfl⟩
  go_wp2_with fail
  refine (example_holds _ hg).mono ?_
  rintro e w1 ⟨rfl, b1⟩
  go_wp2_with fail
  go_ret
  exact ⟨rfl, b1⟩
theorem civils_law (n : Int) (w : World) (hg : Good w) :
    Calls Tryd.prog 5 #[.int .i64 n] w fun e w' => e = .returned (.bool true) ∧ Below w.heap.size w w' := by
  obtain ⟨y, m, d, b, c1, c2⟩ := civil_is n
  obtain ⟨v, b2, c3, c4⟩ := weekday_is n
  have C1 := Lib.hid c1
  have C2 := Lib.hid c2
  have C3 := Lib.hid c3
  have C4 := Lib.hid c4
  clear c1 c2 c3 c4
  go_enter Tryd.func5, Tryd.ntmps5
  go_wp2_with fail
  refine (C1.out _ hg).mono ?_
  rintro e w1 ⟨rfl, rfl⟩
  go_wp2_with fail
  refine (C2.out _).mono ?_
  rintro e w1 ⟨rfl, rfl⟩
  go_wp2_with fail
  refine (C3.out _).mono ?_
  rintro e w1 ⟨rfl, rfl⟩
  go_wp2_with fail
  refine (C4.out _).mono ?_
  rintro e w1 ⟨rfl, rfl⟩
  go_wp2_with fail
  refine (example_holds _ hg).mono ?_
  rintro e w1 ⟨rfl, b1⟩
  go_wp2_with fail
  go_ret
  exact ⟨rfl, b1⟩
theorem formats_law (n : Int) (w : World) (hg : Good w) :
    Calls Tryd.prog 6 #[.int .i64 n] w fun e w' => e = .returned (.bool true) ∧ Below w.heap.size w w' := by
  obtain ⟨l, x, c1, c2⟩ := format_is n
  have C1 := Lib.hid c1
  have C2 := Lib.hid c2
  clear c1 c2
  go_enter Tryd.func6, Tryd.ntmps6
  go_wp2_with fail
  refine (C1.out _ hg).mono ?_
  rintro e w1 ⟨rfl, b1⟩
  go_wp2_with fail
  refine (rel (W := w) (C2.out _) (by assumption)).mono ?_
  rintro e w2 ⟨rfl, b2⟩
  go_wp2_with fail
  refine (rel (W := w) (example_holds _ (hg.below b2)) (by assumption)).mono ?_
  rintro e w3 ⟨rfl, b3⟩
  go_wp2_with fail
  go_ret
  exact ⟨rfl, b3⟩
theorem moments_law (n t a : Int) (ha : a ≤ 9223372036854775807) (w : World) (hg : Good w) :
    Calls Tryd.prog 8 #[.int .i64 n, .int .i64 t, .int .i64 a] w fun e w' => e = .returned (.bool true) ∧ Below w.heap.size w w' := by
  obtain ⟨v, b, c1, c2⟩ := absolute_is n t
  obtain ⟨d, u, b2, c3, c4⟩ := relative_is a ha
  have C1 := Lib.hid c1
  have C2 := Lib.hid c2
  have C3 := Lib.hid c3
  have C4 := Lib.hid c4
  clear c1 c2 c3 c4
  go_enter Tryd.func8, Tryd.ntmps8
  go_wp2_with fail
  refine (C1.out _).mono ?_
  rintro e w1 ⟨rfl, rfl⟩
  go_wp2_with fail
  refine (C2.out _).mono ?_
  rintro e w1 ⟨rfl, rfl⟩
  go_wp2_with fail
  refine (C3.out _).mono ?_
  rintro e w1 ⟨rfl, rfl⟩
  go_wp2_with fail
  refine (C4.out _).mono ?_
  rintro e w1 ⟨rfl, rfl⟩
  go_wp2_with fail
  refine (example_holds _ hg).mono ?_
  rintro e w1 ⟨rfl, b1⟩
  go_wp2_with fail
  go_ret
  exact ⟨rfl, b1⟩
theorem stamps_law (a : Int) (ha : a ≤ 9223372036854775807) (w : World) (hg : Good w) :
    Calls Tryd.prog 9 #[.int .i64 a] w fun e w' => e = .returned (.bool true) ∧ Below w.heap.size w w' := by
  obtain ⟨l, x, c1, c2⟩ := fmtMom_is a ha
  have C1 := Lib.hid c1
  have C2 := Lib.hid c2
  clear c1 c2
  go_enter Tryd.func9, Tryd.ntmps9
  go_wp2_with fail
  refine (C1.out _ hg).mono ?_
  rintro e w1 ⟨rfl, b1⟩
  go_wp2_with fail
  refine (rel (W := w) (C2.out _) (by assumption)).mono ?_
  rintro e w2 ⟨rfl, b2⟩
  go_wp2_with fail
  refine (rel (W := w) (example_holds _ (hg.below b2)) (by assumption)).mono ?_
  rintro e w3 ⟨rfl, b3⟩
  go_wp2_with fail
  go_ret
  exact ⟨rfl, b3⟩
theorem parses_law (s : ByteArray) (w : World) (hg : Good w) :
    Calls Tryd.prog 7 #[.string s] w fun e w' => e = .returned (.bool true) ∧ Below w.heap.size w w' := by
  by_cases h : (4096 : Int) < s.size
  · go_enter Tryd.func7, Tryd.ntmps7
    go_wp2_with fail
    refine (example_holds _ hg).mono ?_
    rintro e w1 ⟨rfl, b1⟩
    go_wp2_with fail
    go_ret
    exact ⟨rfl, b1⟩
  · have C1 := Lib.hid (dparse_any s)
    have C2 := Lib.hid (rdparse_any s)
    generalize (dayR s.data.toList).1 = n at C1 C2
    generalize (dayR s.data.toList).2 = x at C1 C2
    go_enter Tryd.func7, Tryd.ntmps7
    go_wp2_with fail
    refine (C1.out _ hg).mono ?_
    rintro e w1 ⟨rfl, b1⟩
    go_wp2_with fail
    refine (rel (W := w) (C2.out _) (by assumption)).mono ?_
    rintro e w2 ⟨rfl, b2⟩
    go_wp2_with fail
    refine (rel (W := w) (example_holds _ (hg.below b2)) (by assumption)).mono ?_
    rintro e w3 ⟨rfl, b3⟩
    go_wp2_with fail
    go_ret
    exact ⟨rfl, b3⟩
theorem reads_law (s : ByteArray) (w : World) (hg : Good w) :
    Calls Tryd.prog 10 #[.string s] w fun e w' => e = .returned (.bool true) ∧ Below w.heap.size w w' := by
  by_cases h : (4096 : Int) < s.size
  · go_enter Tryd.func10, Tryd.ntmps10
    go_wp2_with fail
    refine (example_holds _ hg).mono ?_
    rintro e w1 ⟨rfl, b1⟩
    go_wp2_with fail
    go_ret
    exact ⟨rfl, b1⟩
  · have C1 := Lib.hid (show ∀ (w : World), Good w → Calls Tryd.prog 37 #[.string s] w fun e w' => e = .returned (.tuple #[.int .i64 (momR s.data.toList).1, .int .i64 (momR s.data.toList).2]) ∧ Below w.heap.size w w' from fun w hg => dmom_any s.data.toList w hg)
    have C2 := Lib.hid (rmom_any s)
    generalize (momR s.data.toList).1 = n at C1 C2
    generalize (momR s.data.toList).2 = x at C1 C2
    go_enter Tryd.func10, Tryd.ntmps10
    go_wp2_with fail
    refine (C1.out _ hg).mono ?_
    rintro e w1 ⟨rfl, b1⟩
    go_wp2_with fail
    refine (rel (W := w) (C2.out _) (by assumption)).mono ?_
    rintro e w2 ⟨rfl, b2⟩
    go_wp2_with fail
    refine (rel (W := w) (example_holds _ (hg.below b2)) (by assumption)).mono ?_
    rintro e w3 ⟨rfl, b3⟩
    go_wp2_with fail
    go_ret
    exact ⟨rfl, b3⟩
end Go.Proofs.YtalghfmdaifcgaaDoor
