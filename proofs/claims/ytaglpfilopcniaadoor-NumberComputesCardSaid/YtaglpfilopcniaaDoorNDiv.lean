/-
  Division of package number and of its reference, the reference's product, and Clamp: what each call answers; nothing that existed before the call has changed behind it. Condition: the arguments are integers of 64 bits.
-/
import Derived.Test.YtaglpfilopcniaaDoorNArith
namespace Go.Proofs.YtaglpfilopcniaaDoor
open Go.RowKit

/-! ### Quotients and remainders towards zero -/
theorem tmod_nonneg' (a b : Int) (ha : 0 ≤ a) (hb : b ≠ 0) : 0 ≤ a.tmod b ∧ a.tmod b < b.natAbs := by
  refine ⟨Int.tmod_nonneg b ha, ?_⟩
  rcases (show 0 < b ∨ 0 < -b from by omega) with h | h
  · have := Int.tmod_lt_of_pos a h
    omega
  · have := Int.tmod_lt_of_pos a h
    rw [Int.tmod_neg] at this
    omega
theorem tmod_neg' (a b : Int) (ha : a < 0) (hb : b ≠ 0) : a.tmod b ≤ 0 ∧ -(b.natAbs : Int) < a.tmod b := by
  have h := tmod_nonneg' (-a) b (by omega) hb
  rw [Int.neg_tmod] at h
  omega
theorem tdiv_small (a b : Int) (a0 : -9223372036854775808 ≤ a) (a1 : a ≤ 9223372036854775807) (hb : b ≠ 0) (hr : a.tmod b ≠ 0) : -4611686018427387904 ≤ a.tdiv b ∧ a.tdiv b ≤ 4611686018427387904 := by
  have h2 : 2 ≤ b.natAbs := by
    rcases (show b = 1 ∨ b = -1 ∨ 2 ≤ b.natAbs from by omega) with h | h | h
    · rw [h, Int.tmod_one] at hr; exact absurd rfl hr
    · rw [h, Int.tmod_neg, Int.tmod_one] at hr; exact absurd rfl hr
    · exact h
  have hq : (a.tdiv b).natAbs = a.natAbs / b.natAbs := Int.natAbs_tdiv a b
  have := Nat.div_le_div_left h2 (show 0 < 2 by decide) (a := a.natAbs)
  omega
theorem tdiv_in (a b : Int) (t : Two a b) (hb : b ≠ 0) (hb1 : b ≠ -1) : wrap64 (a.tdiv b) = a.tdiv b := by
  obtain ⟨a0, a1, _, _⟩ := t
  by_cases h1 : b = 1
  · rw [h1, Int.tdiv_one]
    exact w64_id a0 a1
  · have hq : (a.tdiv b).natAbs = a.natAbs / b.natAbs := Int.natAbs_tdiv a b
    have := Nat.div_le_div_left (show 2 ≤ b.natAbs by omega) (show 0 < 2 by decide) (a := a.natAbs)
    exact w64_id (by omega) (by omega)
/-- A remainder of a floored quotient: zero, or of the divisor's sign and smaller. -/
def Rest (b r : Int) : Prop := r = 0 ∨ (0 < b ∧ 0 < r ∧ r < b) ∨ (b < 0 ∧ r < 0 ∧ b < r)
theorem rest_keep (a b : Int) (hb : b ≠ 0) (h : a.tmod b = 0 ∨ (a < 0 ↔ b < 0)) : Rest b (a - a.tdiv b * b) := by
  have e := Int.mul_tdiv_add_tmod a b
  rw [Int.mul_comm] at e
  have e2 : a - a.tdiv b * b = a.tmod b := by omega
  rw [e2]
  unfold Rest
  rcases Int.lt_or_le a 0 with ha | ha
  · have := tmod_neg' a b ha hb
    omega
  · have := tmod_nonneg' a b ha hb
    omega
theorem rest_less (a b : Int) (hb : b ≠ 0) (hr : a.tmod b ≠ 0) (h : ¬ (a < 0 ↔ b < 0)) : Rest b (a - (a.tdiv b - 1) * b) := by
  have e := Int.mul_tdiv_add_tmod a b
  rw [Int.mul_comm] at e
  have e2 : a - (a.tdiv b - 1) * b = a.tmod b + b := by rw [Int.sub_mul, Int.one_mul]; omega
  rw [e2]
  unfold Rest
  rcases Int.lt_or_le a 0 with ha | ha
  · have := tmod_neg' a b ha hb
    omega
  · have := tmod_nonneg' a b ha hb
    omega
/-- The floored quotient. -/
def flo (a b : Int) : Int := if a.tmod b = 0 ∨ (a < 0 ↔ b < 0) then a.tdiv b else a.tdiv b - 1
theorem rest_flo (a b : Int) (hb : b ≠ 0) : Rest b (a - flo a b * b) := by
  unfold flo
  by_cases h : a.tmod b = 0 ∨ (a < 0 ↔ b < 0)
  · rw [if_pos h]; exact rest_keep a b hb h
  · rw [if_neg h]; exact rest_less a b hb (by omega) (by omega)
theorem flo_pos (a b : Int) (ha : 0 ≤ a) (hb : 0 < b) : a / b = flo a b := by
  unfold flo
  rw [if_pos (Or.inr ⟨fun h => by omega, fun h => by omega⟩), Int.tdiv_eq_ediv_of_nonneg ha]
theorem flo_keep (a b : Int) (h : a.tmod b = 0 ∨ (a < 0 ↔ b < 0)) : a.tdiv b = flo a b := by unfold flo; rw [if_pos h]
theorem flo_less (a b : Int) (t : Two a b) (hb : b ≠ 0) (hr : a.tmod b ≠ 0) (h : ¬ (a < 0 ↔ b < 0)) : wrap64 (a.tdiv b - 1) = flo a b := by
  have := tdiv_small a b t.a0 t.a1 hb hr
  unfold flo
  rw [if_neg (by omega), w64_id (by omega) (by omega)]

theorem flo_m1 (a : Int) : -a = flo a (-1) := by
  unfold flo
  rw [if_pos (Or.inl (by rw [Int.tmod_neg, Int.tmod_one])), Int.tdiv_neg, Int.tdiv_one]
set_option maxHeartbeats 2000000 in
theorem div_core (a b : Int) (t : Two a b) (hb : b ≠ 0) (hb1 : b ≠ -1) (w : World) : Calls Tryd.prog 23 #[.int .i64 a, .int .i64 b] w fun e w' => e = .returned (.tuple #[.int .i64 (flo a b), .bool true]) ∧ Below w.heap.size w w' := by
  have T := Lib.hid t
  have d0 : (b == 0) = false := beq_false hb
  have d1 : (b == -1) = false := beq_false hb1
  have hB := Lib.hid hb
  have W := Lib.hid (tdiv_in a b t hb hb1)
  obtain ⟨a0, a1, b0, b1⟩ := t
  clear hb hb1
  by_cases hp : 0 ≤ a ∧ 0 < b
  · obtain ⟨p0, p1⟩ := hp
    have E := Lib.hid (flo_pos a b p0 p1)
    have e1 : decide (a < 0) = false := lt_false p0
    have e2 : decide (b < 0) = false := lt_false (by omega)
    have e3 : decide (a % b < 0) = false := lt_false (Int.emod_nonneg _ hB.out)
    go_enter Tryd.func23, Tryd.ntmps23
    go_wp2_with fail
    refine (between_any _ _ _).mono ?_
    rintro e w' ⟨rfl, rfl⟩
    go_wp2_with fail
    refine (inside_yes _ _ _ (by omega) (by omega) _).mono ?_
    rintro e w' ⟨rfl, rfl⟩
    go_wp2_with fail
    all_goals
      go_ret2
      exact ⟨ret_ok (by first | exact E.out | (rw [W.out]; exact E.out)) rfl, rng_below _ _ _⟩
  by_cases hc : (a < 0 ∧ b < 0) ∧ a.tmod b = 0
  · obtain ⟨⟨p0, p1⟩, hz⟩ := hc
    have E := Lib.hid (flo_keep a b (Or.inl hz))
    have e1 : decide (a < 0) = true := lt_true p0
    have e2 : decide (b < 0) = true := lt_true p1
    have z : (a.tmod b != 0) = false := neq_false hz
    clear hz hp
    go_enter Tryd.func23, Tryd.ntmps23
    go_wp2_with fail
    refine (between_any _ _ _).mono ?_
    rintro e w' ⟨rfl, rfl⟩
    go_wp2_with fail
    refine (inside_yes _ _ _ (by omega) (by omega) _).mono ?_
    rintro e w' ⟨rfl, rfl⟩
    go_wp2_with fail
    all_goals
      go_ret2
      exact ⟨ret_ok (by first | exact E.out | (rw [W.out]; exact E.out)) rfl, rng_below _ _ _⟩
  by_cases hc : (a < 0 ∧ b < 0) ∧ a.tmod b ≠ 0
  · obtain ⟨⟨p0, p1⟩, hz⟩ := hc
    have E := Lib.hid (flo_keep a b (Or.inr ⟨fun _ => p1, fun _ => p0⟩))
    have e1 : decide (a < 0) = true := lt_true p0
    have e2 : decide (b < 0) = true := lt_true p1
    have z : (a.tmod b != 0) = true := bne_true hz
    have e3 : decide (a.tmod b < 0) = true := lt_true (by have := (tmod_neg' a b p0 hB.out).1; omega)
    clear hz hp
    go_enter Tryd.func23, Tryd.ntmps23
    go_wp2_with fail
    refine (between_any _ _ _).mono ?_
    rintro e w' ⟨rfl, rfl⟩
    go_wp2_with fail
    refine (inside_yes _ _ _ (by omega) (by omega) _).mono ?_
    rintro e w' ⟨rfl, rfl⟩
    go_wp2_with fail
    all_goals
      go_ret2
      exact ⟨ret_ok (by first | exact E.out | (rw [W.out]; exact E.out)) rfl, rng_below _ _ _⟩
  by_cases hc : (a < 0 ∧ 0 < b) ∧ a.tmod b = 0
  · obtain ⟨⟨p0, p1⟩, hz⟩ := hc
    have E := Lib.hid (flo_keep a b (Or.inl hz))
    have e1 : decide (a < 0) = true := lt_true p0
    have e2 : decide (b < 0) = false := lt_false (by omega)
    have z : (a.tmod b != 0) = false := neq_false hz
    clear hz hp
    go_enter Tryd.func23, Tryd.ntmps23
    go_wp2_with fail
    refine (between_any _ _ _).mono ?_
    rintro e w' ⟨rfl, rfl⟩
    go_wp2_with fail
    refine (inside_yes _ _ _ (by omega) (by omega) _).mono ?_
    rintro e w' ⟨rfl, rfl⟩
    go_wp2_with fail
    all_goals
      go_ret2
      exact ⟨ret_ok (by first | exact E.out | (rw [W.out]; exact E.out)) rfl, rng_below _ _ _⟩
  by_cases hc : (a < 0 ∧ 0 < b) ∧ a.tmod b ≠ 0
  · obtain ⟨⟨p0, p1⟩, hz⟩ := hc
    have E := Lib.hid (flo_less a b T.out hB.out hz (by omega))
    have e1 : decide (a < 0) = true := lt_true p0
    have e2 : decide (b < 0) = false := lt_false (by omega)
    have z : (a.tmod b != 0) = true := bne_true hz
    have e3 : decide (a.tmod b < 0) = true := lt_true (by have := (tmod_neg' a b p0 hB.out).1; omega)
    clear hz hp
    go_enter Tryd.func23, Tryd.ntmps23
    go_wp2_with fail
    refine (between_any _ _ _).mono ?_
    rintro e w' ⟨rfl, rfl⟩
    go_wp2_with fail
    refine (inside_yes _ _ _ (by omega) (by omega) _).mono ?_
    rintro e w' ⟨rfl, rfl⟩
    go_wp2_with fail
    all_goals
      go_ret2
      exact ⟨ret_ok (by first | exact E.out | (rw [W.out]; exact E.out)) rfl, rng_below _ _ _⟩
  by_cases hc : (0 ≤ a ∧ b < 0) ∧ a.tmod b = 0
  · obtain ⟨⟨p0, p1⟩, hz⟩ := hc
    have E := Lib.hid (flo_keep a b (Or.inl hz))
    have e1 : decide (a < 0) = false := lt_false p0
    have e2 : decide (b < 0) = true := lt_true p1
    have z : (a.tmod b != 0) = false := neq_false hz
    have z2 : (a % b != 0) = false := by rw [← Int.tmod_eq_emod_of_nonneg p0]; exact z
    have e3 : decide (a % b < 0) = false := lt_false (Int.emod_nonneg _ hB.out)
    clear hz hp
    go_enter Tryd.func23, Tryd.ntmps23
    go_wp2_with fail
    refine (between_any _ _ _).mono ?_
    rintro e w' ⟨rfl, rfl⟩
    go_wp2_with fail
    refine (inside_yes _ _ _ (by omega) (by omega) _).mono ?_
    rintro e w' ⟨rfl, rfl⟩
    go_wp2_with fail
    all_goals
      go_ret2
      exact ⟨ret_ok (by first | exact E.out | (rw [W.out]; exact E.out)) rfl, rng_below _ _ _⟩
  by_cases hc : (0 ≤ a ∧ b < 0) ∧ a.tmod b ≠ 0
  · obtain ⟨⟨p0, p1⟩, hz⟩ := hc
    have E := Lib.hid (flo_less a b T.out hB.out hz (by omega))
    have e1 : decide (a < 0) = false := lt_false p0
    have e2 : decide (b < 0) = true := lt_true p1
    have z : (a.tmod b != 0) = true := bne_true hz
    have z2 : (a % b != 0) = true := by rw [← Int.tmod_eq_emod_of_nonneg p0]; exact z
    have e3 : decide (a % b < 0) = false := lt_false (Int.emod_nonneg _ hB.out)
    clear hz hp
    go_enter Tryd.func23, Tryd.ntmps23
    go_wp2_with fail
    refine (between_any _ _ _).mono ?_
    rintro e w' ⟨rfl, rfl⟩
    go_wp2_with fail
    refine (inside_yes _ _ _ (by omega) (by omega) _).mono ?_
    rintro e w' ⟨rfl, rfl⟩
    go_wp2_with fail
    all_goals
      go_ret2
      exact ⟨ret_ok (by first | exact E.out | (rw [W.out]; exact E.out)) rfl, rng_below _ _ _⟩
  exfalso
  have := hB.out
  omega
theorem div_m1 (a : Int) (a0 : -9223372036854775808 < a) (a1 : a ≤ 9223372036854775807) (w : World) : Calls Tryd.prog 23 #[.int .i64 a, .int .i64 (-1)] w fun e w' => e = .returned (.tuple #[.int .i64 (flo a (-1)), .bool true]) ∧ Below w.heap.size w w' := by
  have d1 : (a == -9223372036854775808) = false := beq_false (by omega)
  have E := Lib.hid (flo_m1 a)
  go_enter Tryd.func23, Tryd.ntmps23
  go_wp2_with fail
  refine (between_any _ _ _).mono ?_
  rintro e w' ⟨rfl, rfl⟩
  go_wp2_with fail
  refine (inside_yes _ _ _ (by omega) (by omega) _).mono ?_
  rintro e w' ⟨rfl, rfl⟩
  go_wp2_with fail
  all_goals
    go_ret2
    exact ⟨ret_ok (E.out) rfl, rng_below _ _ _⟩
theorem div_zero (a : Int) (w : World) : Calls Tryd.prog 23 #[.int .i64 a, .int .i64 0] w fun e w' => e = .returned (.tuple #[.int .i64 0, .bool false]) ∧ Below w.heap.size w w' := by
  go_enter Tryd.func23, Tryd.ntmps23
  go_wp2_with fail
  refine (between_any _ _ _).mono ?_
  rintro e w' ⟨rfl, rfl⟩
  go_wp2_with fail
  go_ret2
  exact ⟨rfl, rng_below _ _ _⟩
theorem div_min (w : World) : Calls Tryd.prog 23 #[.int .i64 (-9223372036854775808), .int .i64 (-1)] w fun e w' => e = .returned (.tuple #[.int .i64 0, .bool false]) ∧ Below w.heap.size w w' := by
  go_enter Tryd.func23, Tryd.ntmps23
  go_wp2_with fail
  refine (between_any _ _ _).mono ?_
  rintro e w' ⟨rfl, rfl⟩
  go_wp2_with fail
  refine (inside_no _ _ _ (by omega) _).mono ?_
  rintro e w' ⟨rfl, rfl⟩
  go_wp2_with fail
  go_ret2
  exact ⟨rfl, rng_below _ _ _⟩
set_option maxHeartbeats 2000000 in
theorem rdiv_core (a b : Int) (t : Two a b) (hb : b ≠ 0) (hb1 : b ≠ -1) (m : Bool) (hm : (a == -9223372036854775808) = m) (w : World) : Calls Tryd.prog 24 #[.int .i64 a, .int .i64 b] w fun e w' => e = .returned (.tuple #[.int .i64 (flo a b), .bool true]) ∧ Below w.heap.size w w' := by
  have T := Lib.hid t
  have d0 : (b == 0) = false := beq_false hb
  have d1 : (b == -1) = false := beq_false hb1
  have hB := Lib.hid hb
  have W := Lib.hid (tdiv_in a b t hb hb1)
  obtain ⟨a0, a1, b0, b1⟩ := t
  clear hb hb1
  cases m
  all_goals
    by_cases hp : 0 ≤ a ∧ 0 < b
    · obtain ⟨p0, p1⟩ := hp
      have E := Lib.hid (flo_pos a b p0 p1)
      have e1 : decide (a < 0) = false := lt_false p0
      have e2 : decide (b < 0) = false := lt_false (by omega)
      have e3 : decide (a % b < 0) = false := lt_false (Int.emod_nonneg _ hB.out)
      go_enter Tryd.func24, Tryd.ntmps24
      go_wp2_with fail
      go_quiet (fail)
      go_wp2_with fail
      all_goals
        go_ret2
        exact ⟨ret_ok (by first | exact E.out | (rw [W.out]; exact E.out)) rfl, (below_drewN (Below.refl _ _) nq)⟩
    by_cases hc : (a < 0 ∧ b < 0) ∧ a.tmod b = 0
    · obtain ⟨⟨p0, p1⟩, hz⟩ := hc
      have E := Lib.hid (flo_keep a b (Or.inl hz))
      have e1 : decide (a < 0) = true := lt_true p0
      have e2 : decide (b < 0) = true := lt_true p1
      have z : (a.tmod b != 0) = false := neq_false hz
      clear hz hp
      go_enter Tryd.func24, Tryd.ntmps24
      go_wp2_with fail
      go_quiet (fail)
      go_wp2_with fail
      all_goals
        go_ret2
        exact ⟨ret_ok (by first | exact E.out | (rw [W.out]; exact E.out)) rfl, (below_drewN (Below.refl _ _) nq)⟩
    by_cases hc : (a < 0 ∧ b < 0) ∧ a.tmod b ≠ 0
    · obtain ⟨⟨p0, p1⟩, hz⟩ := hc
      have E := Lib.hid (flo_keep a b (Or.inr ⟨fun _ => p1, fun _ => p0⟩))
      have e1 : decide (a < 0) = true := lt_true p0
      have e2 : decide (b < 0) = true := lt_true p1
      have z : (a.tmod b != 0) = true := bne_true hz
      have e3 : decide (a.tmod b < 0) = true := lt_true (by have := (tmod_neg' a b p0 hB.out).1; omega)
      clear hz hp
      go_enter Tryd.func24, Tryd.ntmps24
      go_wp2_with fail
      go_quiet (fail)
      go_wp2_with fail
      all_goals
        go_ret2
        exact ⟨ret_ok (by first | exact E.out | (rw [W.out]; exact E.out)) rfl, (below_drewN (Below.refl _ _) nq)⟩
    by_cases hc : (a < 0 ∧ 0 < b) ∧ a.tmod b = 0
    · obtain ⟨⟨p0, p1⟩, hz⟩ := hc
      have E := Lib.hid (flo_keep a b (Or.inl hz))
      have e1 : decide (a < 0) = true := lt_true p0
      have e2 : decide (b < 0) = false := lt_false (by omega)
      have z : (a.tmod b != 0) = false := neq_false hz
      clear hz hp
      go_enter Tryd.func24, Tryd.ntmps24
      go_wp2_with fail
      go_quiet (fail)
      go_wp2_with fail
      all_goals
        go_ret2
        exact ⟨ret_ok (by first | exact E.out | (rw [W.out]; exact E.out)) rfl, (below_drewN (Below.refl _ _) nq)⟩
    by_cases hc : (a < 0 ∧ 0 < b) ∧ a.tmod b ≠ 0
    · obtain ⟨⟨p0, p1⟩, hz⟩ := hc
      have E := Lib.hid (flo_less a b T.out hB.out hz (by omega))
      have e1 : decide (a < 0) = true := lt_true p0
      have e2 : decide (b < 0) = false := lt_false (by omega)
      have z : (a.tmod b != 0) = true := bne_true hz
      have e3 : decide (a.tmod b < 0) = true := lt_true (by have := (tmod_neg' a b p0 hB.out).1; omega)
      clear hz hp
      go_enter Tryd.func24, Tryd.ntmps24
      go_wp2_with fail
      go_quiet (fail)
      go_wp2_with fail
      all_goals
        go_ret2
        exact ⟨ret_ok (by first | exact E.out | (rw [W.out]; exact E.out)) rfl, (below_drewN (Below.refl _ _) nq)⟩
    by_cases hc : (0 ≤ a ∧ b < 0) ∧ a.tmod b = 0
    · obtain ⟨⟨p0, p1⟩, hz⟩ := hc
      have E := Lib.hid (flo_keep a b (Or.inl hz))
      have e1 : decide (a < 0) = false := lt_false p0
      have e2 : decide (b < 0) = true := lt_true p1
      have z : (a.tmod b != 0) = false := neq_false hz
      have z2 : (a % b != 0) = false := by rw [← Int.tmod_eq_emod_of_nonneg p0]; exact z
      have e3 : decide (a % b < 0) = false := lt_false (Int.emod_nonneg _ hB.out)
      clear hz hp
      go_enter Tryd.func24, Tryd.ntmps24
      go_wp2_with fail
      go_quiet (fail)
      go_wp2_with fail
      all_goals
        go_ret2
        exact ⟨ret_ok (by first | exact E.out | (rw [W.out]; exact E.out)) rfl, (below_drewN (Below.refl _ _) nq)⟩
    by_cases hc : (0 ≤ a ∧ b < 0) ∧ a.tmod b ≠ 0
    · obtain ⟨⟨p0, p1⟩, hz⟩ := hc
      have E := Lib.hid (flo_less a b T.out hB.out hz (by omega))
      have e1 : decide (a < 0) = false := lt_false p0
      have e2 : decide (b < 0) = true := lt_true p1
      have z : (a.tmod b != 0) = true := bne_true hz
      have z2 : (a % b != 0) = true := by rw [← Int.tmod_eq_emod_of_nonneg p0]; exact z
      have e3 : decide (a % b < 0) = false := lt_false (Int.emod_nonneg _ hB.out)
      clear hz hp
      go_enter Tryd.func24, Tryd.ntmps24
      go_wp2_with fail
      go_quiet (fail)
      go_wp2_with fail
      all_goals
        go_ret2
        exact ⟨ret_ok (by first | exact E.out | (rw [W.out]; exact E.out)) rfl, (below_drewN (Below.refl _ _) nq)⟩
    exfalso
    have := hB.out
    omega
theorem rdiv_m1 (a : Int) (a0 : -9223372036854775808 < a) (a1 : a ≤ 9223372036854775807) (w : World) : Calls Tryd.prog 24 #[.int .i64 a, .int .i64 (-1)] w fun e w' => e = .returned (.tuple #[.int .i64 (flo a (-1)), .bool true]) ∧ Below w.heap.size w w' := by
  have d1 : (a == -9223372036854775808) = false := beq_false (by omega)
  have E := Lib.hid (flo_m1 a)
  go_enter Tryd.func24, Tryd.ntmps24
  go_wp2_with fail
  go_quiet (fail)
  go_wp2_with fail
  all_goals
    go_ret2
    exact ⟨ret_ok (E.out) rfl, (below_drewN (Below.refl _ _) nq)⟩
theorem rdiv_zero (a : Int) (w : World) : Calls Tryd.prog 24 #[.int .i64 a, .int .i64 0] w fun e w' => e = .returned (.tuple #[.int .i64 0, .bool false]) ∧ Below w.heap.size w w' := by
  go_enter Tryd.func24, Tryd.ntmps24
  go_wp2_with fail
  go_ret2
  exact ⟨rfl, Below.refl _ _⟩
theorem rdiv_min (w : World) : Calls Tryd.prog 24 #[.int .i64 (-9223372036854775808), .int .i64 (-1)] w fun e w' => e = .returned (.tuple #[.int .i64 0, .bool false]) ∧ Below w.heap.size w w' := by
  go_enter Tryd.func24, Tryd.ntmps24
  go_wp2_with fail
  go_ret2
  exact ⟨rfl, Below.refl _ _⟩
theorem div_is (a b : Int) (t : Two a b) : ∃ n ok, (∀ w : World, Calls Tryd.prog 23 #[.int .i64 a, .int .i64 b] w fun e w' => e = .returned (.tuple #[.int .i64 n, .bool ok]) ∧ Below w.heap.size w w') ∧ (∀ w : World, Calls Tryd.prog 24 #[.int .i64 a, .int .i64 b] w fun e w' => e = .returned (.tuple #[.int .i64 n, .bool ok]) ∧ Below w.heap.size w w') ∧ ((ok = false ∧ n = 0 ∧ (b = 0 ∨ b = -1)) ∨ (ok = true ∧ b ≠ 0 ∧ n = flo a b)) := by
  by_cases hb : b = 0
  · subst hb
    exact ⟨_, _, fun w => div_zero a w, fun w => rdiv_zero a w, Or.inl ⟨rfl, rfl, Or.inl rfl⟩⟩
  by_cases hb1 : b = -1
  · subst hb1
    by_cases hm : a = -9223372036854775808
    · subst hm
      exact ⟨_, _, fun w => div_min w, fun w => rdiv_min w, Or.inl ⟨rfl, rfl, Or.inr rfl⟩⟩
    · have := t.a0
      exact ⟨_, _, fun w => div_m1 a (by omega) t.a1 w, fun w => rdiv_m1 a (by omega) t.a1 w, Or.inr ⟨rfl, by decide, rfl⟩⟩
  · exact ⟨_, _, fun w => div_core a b t hb hb1 w, fun w => rdiv_core a b t hb hb1 _ rfl w, Or.inr ⟨rfl, hb, rfl⟩⟩
end Go.Proofs.YtaglpfilopcniaaDoor
