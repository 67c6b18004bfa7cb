/-
  The reference's product, Clamp of package number and of its reference: what each call answers; nothing that existed before the call has changed behind it. Condition: integers of 64 bits.
-/
import Derived.Test.YtaglpfilopcniaaDoorNMul
import Derived.Test.YtaglpfilopcniaaDoorNDiv
namespace Go.Proofs.YtaglpfilopcniaaDoor
open Go.RowKit

theorem size_neg (a : Int) (a0 : -9223372036854775808 ≤ a) (b0 : a < 0) (w : World) : Calls Tryd.prog 37 #[.int .i64 a] w fun e w' => e = .returned (.int .u64 (-a)) ∧ w = w' := by
  go_enter Tryd.func37, Tryd.ntmps37
  go_wp2_with fail
  go_ret
  exact ⟨ret_int (by omega), rfl⟩
theorem size_pos (a : Int) (a1 : a ≤ 9223372036854775807) (b0 : 0 ≤ a) (w : World) : Calls Tryd.prog 37 #[.int .i64 a] w fun e w' => e = .returned (.int .u64 a) ∧ w = w' := by
  have d : decide (a < 0) = false := lt_false b0
  go_enter Tryd.func37, Tryd.ntmps37
  go_wp2_with fail
  go_ret
  exact ⟨rfl, rfl⟩
theorem over_iff (m x y : Int) (hy : 0 < y) : m / y < x ↔ m < x * y := Int.ediv_lt_iff_lt_mul hy

theorem rmul_yes0 (a b : Int) (t : Two a b) (sa : a < 0) (sb : b < 0) (h0 : -9223372036854775808 ≤ a * b) (h1 : a * b ≤ 9223372036854775807) (w : World) : Calls Tryd.prog 22 #[.int .i64 a, .int .i64 b] w fun e w' => e = .returned (.tuple #[.int .i64 (a * b), .bool true]) ∧ w = w' := by
  obtain ⟨a0, a1, b0, b1⟩ := t
  have e : (-a) * (-b) = a * b := Int.neg_mul_neg a b
  have S1 := Lib.hid (fun w => size_neg a a0 sa w)
  have S2 := Lib.hid (fun w => size_neg b b0 sb w)
  have x0 : 0 < -a := by omega
  have x1 : -a ≤ 9223372036854775808 := by omega
  have y0 : 0 < -b := by omega
  have y1 : -b ≤ 9223372036854775808 := by omega
  have d : decide (9223372036854775807 / (-b) < -a) = false := lt_false (Int.not_lt.1 fun hc => by have := (over_iff 9223372036854775807 (-a) (-b) (by omega)).1 hc; omega)
  have W := Lib.hid (w64_id h0 h1)
  have z1 : (a == 0) = false := beq_false (by omega)
  have z2 : (b == 0) = false := beq_false (by omega)
  have s1 : decide (a < 0) = true := lt_true sa
  have s2 : decide (b < 0) = true := lt_true sb
  clear e sa sb
  generalize (-a : Int) = x at S1 x0 x1 d
  generalize (-b : Int) = y at S2 y0 y1 d
  go_enter Tryd.func22, Tryd.ntmps22
  go_wp2_with fail
  refine (S1.out _).mono ?_
  rintro e w' ⟨rfl, rfl⟩
  go_wp2_with fail
  refine (S2.out _).mono ?_
  rintro e w' ⟨rfl, rfl⟩
  go_wp2_with fail
  go_ret2
  exact ⟨by first | rfl | exact ret_ok W.out rfl, rfl⟩
theorem rmul_yes1 (a b : Int) (t : Two a b) (sa : a < 0) (sb : 0 < b) (h0 : -9223372036854775808 ≤ a * b) (h1 : a * b ≤ 9223372036854775807) (w : World) : Calls Tryd.prog 22 #[.int .i64 a, .int .i64 b] w fun e w' => e = .returned (.tuple #[.int .i64 (a * b), .bool true]) ∧ w = w' := by
  obtain ⟨a0, a1, b0, b1⟩ := t
  have e : (-a) * (b) = -(a * b) := Int.neg_mul a b
  have S1 := Lib.hid (fun w => size_neg a a0 sa w)
  have S2 := Lib.hid (fun w => size_pos b b1 (by omega) w)
  have x0 : 0 < -a := by omega
  have x1 : -a ≤ 9223372036854775808 := by omega
  have y0 : 0 < b := by omega
  have y1 : b ≤ 9223372036854775808 := by omega
  have d : decide (9223372036854775808 / (b) < -a) = false := lt_false (Int.not_lt.1 fun hc => by have := (over_iff 9223372036854775808 (-a) (b) (by omega)).1 hc; omega)
  have W := Lib.hid (w64_id h0 h1)
  have z1 : (a == 0) = false := beq_false (by omega)
  have z2 : (b == 0) = false := beq_false (by omega)
  have s1 : decide (a < 0) = true := lt_true sa
  have s2 : decide (b < 0) = false := lt_false (by omega)
  clear e sa sb
  generalize (-a : Int) = x at S1 x0 x1 d
  obtain ⟨y, hy⟩ : ∃ y, y = b := ⟨_, rfl⟩
  have S2 : Hid (∀ w : World, Calls Tryd.prog 37 #[.int .i64 b] w fun e w' => e = .returned (.int .u64 y) ∧ w = w') := Lib.hid (by rw [hy]; exact S2.out)
  rw [← hy] at y0 y1 d
  clear hy
  go_enter Tryd.func22, Tryd.ntmps22
  go_wp2_with fail
  refine (S1.out _).mono ?_
  rintro e w' ⟨rfl, rfl⟩
  go_wp2_with fail
  refine (S2.out _).mono ?_
  rintro e w' ⟨rfl, rfl⟩
  go_wp2_with fail
  go_ret2
  exact ⟨by first | rfl | exact ret_ok W.out rfl, rfl⟩
theorem rmul_yes2 (a b : Int) (t : Two a b) (sa : 0 < a) (sb : b < 0) (h0 : -9223372036854775808 ≤ a * b) (h1 : a * b ≤ 9223372036854775807) (w : World) : Calls Tryd.prog 22 #[.int .i64 a, .int .i64 b] w fun e w' => e = .returned (.tuple #[.int .i64 (a * b), .bool true]) ∧ w = w' := by
  obtain ⟨a0, a1, b0, b1⟩ := t
  have e : (a) * (-b) = -(a * b) := Int.mul_neg a b
  have S1 := Lib.hid (fun w => size_pos a a1 (by omega) w)
  have S2 := Lib.hid (fun w => size_neg b b0 sb w)
  have x0 : 0 < a := by omega
  have x1 : a ≤ 9223372036854775808 := by omega
  have y0 : 0 < -b := by omega
  have y1 : -b ≤ 9223372036854775808 := by omega
  have d : decide (9223372036854775808 / (-b) < a) = false := lt_false (Int.not_lt.1 fun hc => by have := (over_iff 9223372036854775808 (a) (-b) (by omega)).1 hc; omega)
  have W := Lib.hid (w64_id h0 h1)
  have z1 : (a == 0) = false := beq_false (by omega)
  have z2 : (b == 0) = false := beq_false (by omega)
  have s1 : decide (a < 0) = false := lt_false (by omega)
  have s2 : decide (b < 0) = true := lt_true sb
  clear e sa sb
  obtain ⟨x, hx⟩ : ∃ x, x = a := ⟨_, rfl⟩
  have S1 : Hid (∀ w : World, Calls Tryd.prog 37 #[.int .i64 a] w fun e w' => e = .returned (.int .u64 x) ∧ w = w') := Lib.hid (by rw [hx]; exact S1.out)
  rw [← hx] at x0 x1 d
  clear hx
  generalize (-b : Int) = y at S2 y0 y1 d
  go_enter Tryd.func22, Tryd.ntmps22
  go_wp2_with fail
  refine (S1.out _).mono ?_
  rintro e w' ⟨rfl, rfl⟩
  go_wp2_with fail
  refine (S2.out _).mono ?_
  rintro e w' ⟨rfl, rfl⟩
  go_wp2_with fail
  go_ret2
  exact ⟨by first | rfl | exact ret_ok W.out rfl, rfl⟩
theorem rmul_yes3 (a b : Int) (t : Two a b) (sa : 0 < a) (sb : 0 < b) (h0 : -9223372036854775808 ≤ a * b) (h1 : a * b ≤ 9223372036854775807) (w : World) : Calls Tryd.prog 22 #[.int .i64 a, .int .i64 b] w fun e w' => e = .returned (.tuple #[.int .i64 (a * b), .bool true]) ∧ w = w' := by
  obtain ⟨a0, a1, b0, b1⟩ := t
  have e : (a) * (b) = a * b := rfl
  have S1 := Lib.hid (fun w => size_pos a a1 (by omega) w)
  have S2 := Lib.hid (fun w => size_pos b b1 (by omega) w)
  have x0 : 0 < a := by omega
  have x1 : a ≤ 9223372036854775808 := by omega
  have y0 : 0 < b := by omega
  have y1 : b ≤ 9223372036854775808 := by omega
  have d : decide (9223372036854775807 / (b) < a) = false := lt_false (Int.not_lt.1 fun hc => by have := (over_iff 9223372036854775807 (a) (b) (by omega)).1 hc; omega)
  have W := Lib.hid (w64_id h0 h1)
  have z1 : (a == 0) = false := beq_false (by omega)
  have z2 : (b == 0) = false := beq_false (by omega)
  have s1 : decide (a < 0) = false := lt_false (by omega)
  have s2 : decide (b < 0) = false := lt_false (by omega)
  clear e sa sb
  obtain ⟨x, hx⟩ : ∃ x, x = a := ⟨_, rfl⟩
  have S1 : Hid (∀ w : World, Calls Tryd.prog 37 #[.int .i64 a] w fun e w' => e = .returned (.int .u64 x) ∧ w = w') := Lib.hid (by rw [hx]; exact S1.out)
  rw [← hx] at x0 x1 d
  clear hx
  obtain ⟨y, hy⟩ : ∃ y, y = b := ⟨_, rfl⟩
  have S2 : Hid (∀ w : World, Calls Tryd.prog 37 #[.int .i64 b] w fun e w' => e = .returned (.int .u64 y) ∧ w = w') := Lib.hid (by rw [hy]; exact S2.out)
  rw [← hy] at y0 y1 d
  clear hy
  go_enter Tryd.func22, Tryd.ntmps22
  go_wp2_with fail
  refine (S1.out _).mono ?_
  rintro e w' ⟨rfl, rfl⟩
  go_wp2_with fail
  refine (S2.out _).mono ?_
  rintro e w' ⟨rfl, rfl⟩
  go_wp2_with fail
  go_ret2
  exact ⟨by first | rfl | exact ret_ok W.out rfl, rfl⟩
theorem rmul_no0 (a b : Int) (t : Two a b) (sa : a < 0) (sb : b < 0) (h : a * b < -9223372036854775808 ∨ 9223372036854775807 < a * b) (w : World) : Calls Tryd.prog 22 #[.int .i64 a, .int .i64 b] w fun e w' => e = .returned (.tuple #[.int .i64 0, .bool false]) ∧ w = w' := by
  obtain ⟨a0, a1, b0, b1⟩ := t
  have e : (-a) * (-b) = a * b := Int.neg_mul_neg a b
  have S1 := Lib.hid (fun w => size_neg a a0 sa w)
  have S2 := Lib.hid (fun w => size_neg b b0 sb w)
  have x0 : 0 < -a := by omega
  have x1 : -a ≤ 9223372036854775808 := by omega
  have y0 : 0 < -b := by omega
  have y1 : -b ≤ 9223372036854775808 := by omega
  have sg : 0 < a * b := Int.mul_pos_of_neg_of_neg sa sb
  have d : 9223372036854775807 / (-b) < -a := (over_iff 9223372036854775807 (-a) (-b) (by omega)).2 (by omega)
  clear sg h
  have z1 : (a == 0) = false := beq_false (by omega)
  have z2 : (b == 0) = false := beq_false (by omega)
  have s1 : decide (a < 0) = true := lt_true sa
  have s2 : decide (b < 0) = true := lt_true sb
  clear e sa sb
  generalize (-a : Int) = x at S1 x0 x1 d
  generalize (-b : Int) = y at S2 y0 y1 d
  go_enter Tryd.func22, Tryd.ntmps22
  go_wp2_with fail
  refine (S1.out _).mono ?_
  rintro e w' ⟨rfl, rfl⟩
  go_wp2_with fail
  refine (S2.out _).mono ?_
  rintro e w' ⟨rfl, rfl⟩
  go_wp2_with fail
  go_ret2
  exact ⟨rfl, rfl⟩
theorem rmul_no1 (a b : Int) (t : Two a b) (sa : a < 0) (sb : 0 < b) (h : a * b < -9223372036854775808 ∨ 9223372036854775807 < a * b) (w : World) : Calls Tryd.prog 22 #[.int .i64 a, .int .i64 b] w fun e w' => e = .returned (.tuple #[.int .i64 0, .bool false]) ∧ w = w' := by
  obtain ⟨a0, a1, b0, b1⟩ := t
  have e : (-a) * (b) = -(a * b) := Int.neg_mul a b
  have S1 := Lib.hid (fun w => size_neg a a0 sa w)
  have S2 := Lib.hid (fun w => size_pos b b1 (by omega) w)
  have x0 : 0 < -a := by omega
  have x1 : -a ≤ 9223372036854775808 := by omega
  have y0 : 0 < b := by omega
  have y1 : b ≤ 9223372036854775808 := by omega
  have sg : a * b < 0 := Int.mul_neg_of_neg_of_pos sa sb
  have d : 9223372036854775808 / (b) < -a := (over_iff 9223372036854775808 (-a) (b) (by omega)).2 (by omega)
  clear sg h
  have z1 : (a == 0) = false := beq_false (by omega)
  have z2 : (b == 0) = false := beq_false (by omega)
  have s1 : decide (a < 0) = true := lt_true sa
  have s2 : decide (b < 0) = false := lt_false (by omega)
  clear e sa sb
  generalize (-a : Int) = x at S1 x0 x1 d
  obtain ⟨y, hy⟩ : ∃ y, y = b := ⟨_, rfl⟩
  have S2 : Hid (∀ w : World, Calls Tryd.prog 37 #[.int .i64 b] w fun e w' => e = .returned (.int .u64 y) ∧ w = w') := Lib.hid (by rw [hy]; exact S2.out)
  rw [← hy] at y0 y1 d
  clear hy
  go_enter Tryd.func22, Tryd.ntmps22
  go_wp2_with fail
  refine (S1.out _).mono ?_
  rintro e w' ⟨rfl, rfl⟩
  go_wp2_with fail
  refine (S2.out _).mono ?_
  rintro e w' ⟨rfl, rfl⟩
  go_wp2_with fail
  go_ret2
  exact ⟨rfl, rfl⟩
theorem rmul_no2 (a b : Int) (t : Two a b) (sa : 0 < a) (sb : b < 0) (h : a * b < -9223372036854775808 ∨ 9223372036854775807 < a * b) (w : World) : Calls Tryd.prog 22 #[.int .i64 a, .int .i64 b] w fun e w' => e = .returned (.tuple #[.int .i64 0, .bool false]) ∧ w = w' := by
  obtain ⟨a0, a1, b0, b1⟩ := t
  have e : (a) * (-b) = -(a * b) := Int.mul_neg a b
  have S1 := Lib.hid (fun w => size_pos a a1 (by omega) w)
  have S2 := Lib.hid (fun w => size_neg b b0 sb w)
  have x0 : 0 < a := by omega
  have x1 : a ≤ 9223372036854775808 := by omega
  have y0 : 0 < -b := by omega
  have y1 : -b ≤ 9223372036854775808 := by omega
  have sg : a * b < 0 := Int.mul_neg_of_pos_of_neg sa sb
  have d : 9223372036854775808 / (-b) < a := (over_iff 9223372036854775808 (a) (-b) (by omega)).2 (by omega)
  clear sg h
  have z1 : (a == 0) = false := beq_false (by omega)
  have z2 : (b == 0) = false := beq_false (by omega)
  have s1 : decide (a < 0) = false := lt_false (by omega)
  have s2 : decide (b < 0) = true := lt_true sb
  clear e sa sb
  obtain ⟨x, hx⟩ : ∃ x, x = a := ⟨_, rfl⟩
  have S1 : Hid (∀ w : World, Calls Tryd.prog 37 #[.int .i64 a] w fun e w' => e = .returned (.int .u64 x) ∧ w = w') := Lib.hid (by rw [hx]; exact S1.out)
  rw [← hx] at x0 x1 d
  clear hx
  generalize (-b : Int) = y at S2 y0 y1 d
  go_enter Tryd.func22, Tryd.ntmps22
  go_wp2_with fail
  refine (S1.out _).mono ?_
  rintro e w' ⟨rfl, rfl⟩
  go_wp2_with fail
  refine (S2.out _).mono ?_
  rintro e w' ⟨rfl, rfl⟩
  go_wp2_with fail
  go_ret2
  exact ⟨rfl, rfl⟩
theorem rmul_no3 (a b : Int) (t : Two a b) (sa : 0 < a) (sb : 0 < b) (h : a * b < -9223372036854775808 ∨ 9223372036854775807 < a * b) (w : World) : Calls Tryd.prog 22 #[.int .i64 a, .int .i64 b] w fun e w' => e = .returned (.tuple #[.int .i64 0, .bool false]) ∧ w = w' := by
  obtain ⟨a0, a1, b0, b1⟩ := t
  have e : (a) * (b) = a * b := rfl
  have S1 := Lib.hid (fun w => size_pos a a1 (by omega) w)
  have S2 := Lib.hid (fun w => size_pos b b1 (by omega) w)
  have x0 : 0 < a := by omega
  have x1 : a ≤ 9223372036854775808 := by omega
  have y0 : 0 < b := by omega
  have y1 : b ≤ 9223372036854775808 := by omega
  have sg : 0 < a * b := Int.mul_pos sa sb
  have d : 9223372036854775807 / (b) < a := (over_iff 9223372036854775807 (a) (b) (by omega)).2 (by omega)
  clear sg h
  have z1 : (a == 0) = false := beq_false (by omega)
  have z2 : (b == 0) = false := beq_false (by omega)
  have s1 : decide (a < 0) = false := lt_false (by omega)
  have s2 : decide (b < 0) = false := lt_false (by omega)
  clear e sa sb
  obtain ⟨x, hx⟩ : ∃ x, x = a := ⟨_, rfl⟩
  have S1 : Hid (∀ w : World, Calls Tryd.prog 37 #[.int .i64 a] w fun e w' => e = .returned (.int .u64 x) ∧ w = w') := Lib.hid (by rw [hx]; exact S1.out)
  rw [← hx] at x0 x1 d
  clear hx
  obtain ⟨y, hy⟩ : ∃ y, y = b := ⟨_, rfl⟩
  have S2 : Hid (∀ w : World, Calls Tryd.prog 37 #[.int .i64 b] w fun e w' => e = .returned (.int .u64 y) ∧ w = w') := Lib.hid (by rw [hy]; exact S2.out)
  rw [← hy] at y0 y1 d
  clear hy
  go_enter Tryd.func22, Tryd.ntmps22
  go_wp2_with fail
  refine (S1.out _).mono ?_
  rintro e w' ⟨rfl, rfl⟩
  go_wp2_with fail
  refine (S2.out _).mono ?_
  rintro e w' ⟨rfl, rfl⟩
  go_wp2_with fail
  go_ret2
  exact ⟨rfl, rfl⟩
theorem rmul_left (b : Int) (w : World) : Calls Tryd.prog 22 #[.int .i64 0, .int .i64 b] w fun e w' => e = .returned (.tuple #[.int .i64 0, .bool true]) ∧ w = w' := by
  go_enter Tryd.func22, Tryd.ntmps22
  go_wp2_with fail
  go_ret2
  exact ⟨rfl, rfl⟩
theorem rmul_right (a : Int) (w : World) : Calls Tryd.prog 22 #[.int .i64 a, .int .i64 0] w fun e w' => e = .returned (.tuple #[.int .i64 0, .bool true]) ∧ w = w' := by
  by_cases h : a = 0
  · subst h; exact rmul_left 0 w
  · have z : (a == 0) = false := beq_false h
    go_enter Tryd.func22, Tryd.ntmps22
    go_wp2_with fail
    go_ret2
    exact ⟨rfl, rfl⟩
theorem mul_is (a b : Int) (t : Two a b) : ∃ n ok, (∀ w : World, Calls Tryd.prog 21 #[.int .i64 a, .int .i64 b] w fun e w' => e = .returned (.tuple #[.int .i64 n, .bool ok]) ∧ Below w.heap.size w w') ∧ ∀ w : World, Calls Tryd.prog 22 #[.int .i64 a, .int .i64 b] w fun e w' => e = .returned (.tuple #[.int .i64 n, .bool ok]) ∧ w = w' := by
  by_cases ha : a = 0
  · subst ha
    refine ⟨_, _, fun w => mul_yes 0 b t (by omega) (by omega) w, fun w => ?_⟩
    rw [Int.zero_mul]
    exact rmul_left b w
  by_cases hb : b = 0
  · subst hb
    refine ⟨_, _, fun w => mul_yes a 0 t (by omega) (by omega) w, fun w => ?_⟩
    rw [Int.mul_zero]
    exact rmul_right a w
  by_cases h : -9223372036854775808 ≤ a * b ∧ a * b ≤ 9223372036854775807
  · refine ⟨_, _, fun w => mul_yes a b t h.1 h.2 w, fun w => ?_⟩
    rcases Int.lt_or_lt_of_ne ha with sa | sa <;> rcases Int.lt_or_lt_of_ne hb with sb | sb
    · exact rmul_yes0 a b t sa sb h.1 h.2 w
    · exact rmul_yes1 a b t sa sb h.1 h.2 w
    · exact rmul_yes2 a b t sa sb h.1 h.2 w
    · exact rmul_yes3 a b t sa sb h.1 h.2 w
  · refine ⟨_, _, fun w => mul_no a b t (by omega) w, fun w => ?_⟩
    rcases Int.lt_or_lt_of_ne ha with sa | sa <;> rcases Int.lt_or_lt_of_ne hb with sb | sb
    · exact rmul_no0 a b t sa sb (by omega) w
    · exact rmul_no1 a b t sa sb (by omega) w
    · exact rmul_no2 a b t sa sb (by omega) w
    · exact rmul_no3 a b t sa sb (by omega) w
theorem clamp_is (n lo hi : Int) : ∃ m, (∀ w : World, Calls Tryd.prog 25 #[.int .i64 n, .int .i64 lo, .int .i64 hi] w fun e w' => e = .returned (.int .i64 m) ∧ w = w') ∧ ∀ w : World, Calls Tryd.prog 26 #[.int .i64 n, .int .i64 lo, .int .i64 hi] w fun e w' => e = .returned (.int .i64 m) ∧ w = w' := by
  by_cases h : n < lo
  · refine ⟨lo, fun w => ?_, fun w => ?_⟩
    · go_enter Tryd.func25, Tryd.ntmps25
      go_wp2_with fail
      go_ret
      exact ⟨rfl, rfl⟩
    · go_enter Tryd.func26, Tryd.ntmps26
      go_wp2_with fail
      go_ret
      exact ⟨rfl, rfl⟩
  have d : decide (n < lo) = false := lt_false (by omega)
  by_cases h2 : hi < n
  · refine ⟨hi, fun w => ?_, fun w => ?_⟩
    · go_enter Tryd.func25, Tryd.ntmps25
      go_wp2_with fail
      go_ret
      exact ⟨rfl, rfl⟩
    · go_enter Tryd.func26, Tryd.ntmps26
      go_wp2_with fail
      go_ret
      exact ⟨rfl, rfl⟩
  · have d2 : decide (hi < n) = false := lt_false (by omega)
    have d3 : n ≤ hi := by omega
    refine ⟨n, fun w => ?_, fun w => ?_⟩
    · go_enter Tryd.func25, Tryd.ntmps25
      go_wp2_with fail
      all_goals go_ret
      all_goals exact ⟨by first | rfl | exact ret_int (by omega), rfl⟩
    · go_enter Tryd.func26, Tryd.ntmps26
      go_wp2_with fail
      go_ret
      exact ⟨rfl, rfl⟩
end Go.Proofs.YtaglpfilopcniaaDoor
