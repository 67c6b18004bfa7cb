/-
  Multiplication and division of package number and of its reference, and Clamp: what each call answers; nothing that existed before the call has changed behind it. Condition: the arguments are integers of 64 bits.
-/
import Derived.Test.YtaglpfilopcniaaDoorNArith
namespace Go.Proofs.YtaglpfilopcniaaDoor
open Go.RowKit

theorem gap_pos (b : Int) (hb : 0 < b) : wrap64 (-Int.tdiv 9223372036854775808 b) = -(9223372036854775808 / b) := by
  have e : Int.tdiv 9223372036854775808 b = 9223372036854775808 / b := Int.tdiv_eq_ediv_of_nonneg (by decide)
  have h0 : 0 ≤ (9223372036854775808 : Int) / b := Int.ediv_nonneg (by decide) (by omega)
  have h1 : (9223372036854775808 : Int) / b ≤ 9223372036854775808 := Int.ediv_le_self _ (by decide)
  rw [e]
  exact w64_id (by omega) (by omega)
theorem mul_pos (a b : Int) (hb : 0 < b) : (wrap64 (-Int.tdiv 9223372036854775808 b) ≤ a ∧ a ≤ 9223372036854775807 / b) ↔ (-9223372036854775808 ≤ a * b ∧ a * b ≤ 9223372036854775807) := by
  rw [gap_pos b hb, Int.le_ediv_iff_mul_le hb]
  have h : -a ≤ 9223372036854775808 / b ↔ -a * b ≤ 9223372036854775808 := Int.le_ediv_iff_mul_le hb
  rw [Int.neg_mul] at h
  omega
theorem half (c : Int) (hc : 2 ≤ c) : 0 ≤ (9223372036854775808 : Int) / c ∧ (9223372036854775808 : Int) / c ≤ 4611686018427387904 := by
  refine ⟨Int.ediv_nonneg (by decide) (by omega), ?_⟩
  have h : (4611686018427387905 : Int) ≤ 9223372036854775808 / c ↔ 4611686018427387905 * c ≤ 9223372036854775808 := Int.le_ediv_iff_mul_le (by omega)
  omega
theorem gap_neg (c : Int) (hc : 2 ≤ c) : wrap64 (-Int.tdiv 9223372036854775808 (-c)) = 9223372036854775808 / c ∧ wrap64 (Int.tdiv 9223372036854775807 (-c)) = -(9223372036854775807 / c) := by
  have e1 : Int.tdiv 9223372036854775808 c = 9223372036854775808 / c := Int.tdiv_eq_ediv_of_nonneg (by decide)
  have e2 : Int.tdiv 9223372036854775807 c = 9223372036854775807 / c := Int.tdiv_eq_ediv_of_nonneg (by decide)
  have h := half c hc
  have h0 : 0 ≤ (9223372036854775807 : Int) / c := Int.ediv_nonneg (by decide) (by omega)
  have h1 : (9223372036854775807 : Int) / c ≤ 9223372036854775807 := Int.ediv_le_self _ (by decide)
  rw [Int.tdiv_neg, Int.tdiv_neg, e1, e2, Int.neg_neg]
  exact ⟨w64_id (by omega) (by omega), w64_id (by omega) (by omega)⟩
theorem mul_neg (a b : Int) (hb : b < -1) : (wrap64 (Int.tdiv 9223372036854775807 b) ≤ a ∧ a ≤ wrap64 (-Int.tdiv 9223372036854775808 b)) ↔ (-9223372036854775808 ≤ a * b ∧ a * b ≤ 9223372036854775807) := by
  obtain ⟨c, rfl⟩ : ∃ c, b = -c := ⟨-b, by omega⟩
  have g := gap_neg c (by omega)
  rw [g.1, g.2, Int.mul_neg, Int.le_ediv_iff_mul_le (by omega)]
  have h : -a ≤ 9223372036854775807 / c ↔ -a * c ≤ 9223372036854775807 := Int.le_ediv_iff_mul_le (by omega)
  rw [Int.neg_mul] at h
  omega

theorem mul_yes (a b : Int) (t : Two a b) (h0 : -9223372036854775808 ≤ a * b) (h1 : a * b ≤ 9223372036854775807) (w : World) : Calls Tryd.prog 21 #[.int .i64 a, .int .i64 b] w fun e w' => e = .returned (.tuple #[.int .i64 (a * b), .bool true]) ∧ Below w.heap.size w w' := by
  obtain ⟨a0, a1, b0, b1⟩ := t
  rcases (show 0 < b ∨ b < -1 ∨ b = -1 ∨ b = 0 from by omega) with hb | hb | rfl | rfl
  · go_enter Tryd.func21, Tryd.ntmps21
    go_wp2_with fail
    go_quiet (fail)
    go_wp2_with fail
    refine (between_any _ _ _).mono ?_
    rintro e w' ⟨rfl, rfl⟩
    go_wp2_with fail
    refine (inside_yes _ _ _ ((mul_pos a b hb).2 ⟨h0, h1⟩).1 ((mul_pos a b hb).2 ⟨h0, h1⟩).2 _).mono ?_
    rintro e w' ⟨rfl, rfl⟩
    go_wp2_with fail
    go_ret2
    exact ⟨by first | rfl | exact ret_ok (w64_id h0 h1) rfl, rng_over (below_drewN (Below.refl _ _) nq) _ _⟩
  · have d : (b == -1) = false := beq_false (by omega)
    have d0 : decide (0 < b) = false := by simp; omega
    go_enter Tryd.func21, Tryd.ntmps21
    go_wp2_with fail
    go_quiet (fail)
    go_wp2_with fail
    refine (between_any _ _ _).mono ?_
    rintro e w' ⟨rfl, rfl⟩
    go_wp2_with fail
    refine (inside_yes _ _ _ ((mul_neg a b hb).2 ⟨h0, h1⟩).1 ((mul_neg a b hb).2 ⟨h0, h1⟩).2 _).mono ?_
    rintro e w' ⟨rfl, rfl⟩
    go_wp2_with fail
    go_ret2
    exact ⟨by first | rfl | exact ret_ok (w64_id h0 h1) rfl, rng_over (below_drewN (Below.refl _ _) nq) _ _⟩
  · go_enter Tryd.func21, Tryd.ntmps21
    go_wp2_with fail
    refine (between_any _ _ _).mono ?_
    rintro e w' ⟨rfl, rfl⟩
    go_wp2_with fail
    refine (inside_yes _ _ _ (by omega) (by omega) _).mono ?_
    rintro e w' ⟨rfl, rfl⟩
    go_wp2_with fail
    go_ret2
    exact ⟨by first | rfl | exact ret_ok (by omega) rfl | exact ret_ok (w64_id (by omega) (by omega)) rfl, rng_below _ _ _⟩
  · go_enter Tryd.func21, Tryd.ntmps21
    go_wp2_with fail
    refine (between_any _ _ _).mono ?_
    rintro e w' ⟨rfl, rfl⟩
    go_wp2_with fail
    refine (inside_yes _ _ _ (by omega) (by omega) _).mono ?_
    rintro e w' ⟨rfl, rfl⟩
    go_wp2_with fail
    go_ret2
    exact ⟨by first | rfl | exact ret_ok (by omega) rfl | exact ret_ok (w64_id (by omega) (by omega)) rfl, rng_below _ _ _⟩
theorem mul_no (a b : Int) (t : Two a b) (h : a * b < -9223372036854775808 ∨ 9223372036854775807 < a * b) (w : World) : Calls Tryd.prog 21 #[.int .i64 a, .int .i64 b] w fun e w' => e = .returned (.tuple #[.int .i64 0, .bool false]) ∧ Below w.heap.size w w' := by
  obtain ⟨a0, a1, b0, b1⟩ := t
  rcases (show 0 < b ∨ b < -1 ∨ b = -1 ∨ b = 0 from by omega) with hb | hb | rfl | rfl
  · go_enter Tryd.func21, Tryd.ntmps21
    go_wp2_with fail
    go_quiet (fail)
    go_wp2_with fail
    refine (between_any _ _ _).mono ?_
    rintro e w' ⟨rfl, rfl⟩
    go_wp2_with fail
    refine (inside_no _ _ _ (Decidable.byContradiction fun hc => absurd ((mul_pos a b hb).1 ⟨by omega, by omega⟩) (by omega)) _).mono ?_
    rintro e w' ⟨rfl, rfl⟩
    go_wp2_with fail
    go_ret2
    exact ⟨rfl, rng_over (below_drewN (Below.refl _ _) nq) _ _⟩
  · have d : (b == -1) = false := beq_false (by omega)
    have d0 : decide (0 < b) = false := by simp; omega
    go_enter Tryd.func21, Tryd.ntmps21
    go_wp2_with fail
    go_quiet (fail)
    go_wp2_with fail
    refine (between_any _ _ _).mono ?_
    rintro e w' ⟨rfl, rfl⟩
    go_wp2_with fail
    refine (inside_no _ _ _ (Decidable.byContradiction fun hc => absurd ((mul_neg a b hb).1 ⟨by omega, by omega⟩) (by omega)) _).mono ?_
    rintro e w' ⟨rfl, rfl⟩
    go_wp2_with fail
    go_ret2
    exact ⟨rfl, rng_over (below_drewN (Below.refl _ _) nq) _ _⟩
  · go_enter Tryd.func21, Tryd.ntmps21
    go_wp2_with fail
    refine (between_any _ _ _).mono ?_
    rintro e w' ⟨rfl, rfl⟩
    go_wp2_with fail
    refine (inside_no _ _ _ (by omega) _).mono ?_
    rintro e w' ⟨rfl, rfl⟩
    go_wp2_with fail
    go_ret2
    exact ⟨rfl, rng_below _ _ _⟩
  · omega
end Go.Proofs.YtaglpfilopcniaaDoor
