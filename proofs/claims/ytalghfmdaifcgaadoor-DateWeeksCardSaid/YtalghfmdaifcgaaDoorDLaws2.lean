/-
  The laws DateWeeks and DateOrders: each answers true for all integers; nothing that existed before the call has changed behind it. Condition: the tables hold what their initialisers lay.
-/
import Derived.Test.YtalghfmdaifcgaaDoorDLaws
namespace Go.Proofs.YtalghfmdaifcgaaDoor
open Go.RowKit

theorem neq_false {a b : Int} (h : a = b) : (a != b) = false := by rw [h]; simp

/-- A day and the next one, with their dates: y, m, d and z, n, e, and the last day of the month. -/
theorem weeks_core (x y m d z n e last : Int) (x0 : 0 ≤ x) (x1 : x < 36524)
    (hc : ∀ w, Good w → Calls Tryd.prog 23 #[.int .i64 x] w fun r w' => r = .returned (.tuple #[.int .i64 y, .int .i64 m, .int .i64 d, .bool true]) ∧ w = w')
    (hc2 : ∀ w, Good w → Calls Tryd.prog 23 #[.int .i64 (x + 1)] w fun r w' => r = .returned (.tuple #[.int .i64 z, .int .i64 n, .int .i64 e, .bool true]) ∧ w = w')
    (hd : ∀ w, Good w → Calls Tryd.prog 14 #[.int .i64 y, .int .i64 m] w fun r w' => r = .returned (.tuple #[.int .i64 last, .bool true]) ∧ w = w')
    (bm : m ≤ 12) (by0 : y ≤ 2099) (bd : d ≤ 31)
    (h : d < last ∧ z = y ∧ n = m ∧ e = d + 1 ∨ d = last ∧ m < 12 ∧ z = y ∧ n = m + 1 ∧ e = 1 ∨ d = last ∧ m = 12 ∧ z = y + 1 ∧ n = 1 ∧ e = 1) (m0 : 1 ≤ m) (y0 : 2000 ≤ y) (d0 : 1 ≤ d) (w : World) (hg : Good w) :
    Calls Tryd.prog 12 #[.int .i64 x] w fun r w' => r = .returned (.bool true) ∧ Below w.heap.size w w' := by
  have t0 : ¬ x < 0 := by omega
  have t1 : ¬ 36524 ≤ x := by omega
  have v0 : decide ((x + 5) % 7 < 0) = false := by simp; omega
  have v1 : decide (6 < (x + 5) % 7) = false := by simp; omega
  have vn : ((x + 1 + 5) % 7 != ((x + 5) % 7 + 1) % 7) = false := neq_false (by omega)
  have C1 := Lib.hid hc
  have C2 := Lib.hid hc2
  have C3 := Lib.hid hd
  have W1 := Lib.hid (weekday_yes x x0 (by omega))
  have W2 := Lib.hid (weekday_yes (x + 1) (by omega) (by omega))
  clear hc hc2 hd
  rcases h with ⟨k1, rfl, rfl, rfl⟩ | ⟨rfl, k2, rfl, rfl, rfl⟩ | ⟨rfl, rfl, rfl, rfl, rfl⟩
  · go_enter Tryd.func12, Tryd.ntmps12
    go_wp2_with fail
    refine (W1.out _).mono ?_
    rintro e w1 ⟨rfl, rfl⟩
    go_wp2_with fail
    refine (W2.out _).mono ?_
    rintro e w1 ⟨rfl, rfl⟩
    go_wp2_with fail
    refine (C1.out _ hg).mono ?_
    rintro e w1 ⟨rfl, rfl⟩
    go_wp2_with fail
    refine (C2.out _ hg).mono ?_
    rintro e w1 ⟨rfl, rfl⟩
    go_wp2_with fail
    refine (C3.out _ hg).mono ?_
    rintro e w1 ⟨rfl, rfl⟩
    go_wp2_with fail
    refine (example_holds _ hg).mono ?_
    rintro e w1 ⟨rfl, b1⟩
    go_wp2_with fail
    go_ret
    exact ⟨rfl, b1⟩
  · have k1 : ¬ d < d := by omega
    go_enter Tryd.func12, Tryd.ntmps12
    go_wp2_with fail
    refine (W1.out _).mono ?_
    rintro e w1 ⟨rfl, rfl⟩
    go_wp2_with fail
    refine (W2.out _).mono ?_
    rintro e w1 ⟨rfl, rfl⟩
    go_wp2_with fail
    refine (C1.out _ hg).mono ?_
    rintro e w1 ⟨rfl, rfl⟩
    go_wp2_with fail
    refine (C2.out _ hg).mono ?_
    rintro e w1 ⟨rfl, rfl⟩
    go_wp2_with fail
    refine (C3.out _ hg).mono ?_
    rintro e w1 ⟨rfl, rfl⟩
    go_wp2_with fail
    refine (example_holds _ hg).mono ?_
    rintro e w1 ⟨rfl, b1⟩
    go_wp2_with fail
    go_ret
    exact ⟨rfl, b1⟩
  · have k1 : ¬ d < d := by omega
    go_enter Tryd.func12, Tryd.ntmps12
    go_wp2_with fail
    refine (W1.out _).mono ?_
    rintro e w1 ⟨rfl, rfl⟩
    go_wp2_with fail
    refine (W2.out _).mono ?_
    rintro e w1 ⟨rfl, rfl⟩
    go_wp2_with fail
    refine (C1.out _ hg).mono ?_
    rintro e w1 ⟨rfl, rfl⟩
    go_wp2_with fail
    refine (C2.out _ hg).mono ?_
    rintro e w1 ⟨rfl, rfl⟩
    go_wp2_with fail
    refine (C3.out _ hg).mono ?_
    rintro e w1 ⟨rfl, rfl⟩
    go_wp2_with fail
    refine (example_holds _ hg).mono ?_
    rintro e w1 ⟨rfl, b1⟩
    go_wp2_with fail
    go_ret
    exact ⟨rfl, b1⟩
theorem weeks_law (x : Int) (w : World) (hg : Good w) :
    Calls Tryd.prog 12 #[.int .i64 x] w fun r w' => r = .returned (.bool true) ∧ Below w.heap.size w w' := by
  by_cases h0 : x < 0
  · go_enter Tryd.func12, Tryd.ntmps12
    go_wp2_with fail
    refine (example_holds _ hg).mono ?_
    rintro e w1 ⟨rfl, b1⟩
    go_wp2_with fail
    go_ret
    exact ⟨rfl, b1⟩
  by_cases h1 : 36524 ≤ x
  · go_enter Tryd.func12, Tryd.ntmps12
    go_wp2_with fail
    refine (example_holds _ hg).mono ?_
    rintro e w1 ⟨rfl, b1⟩
    go_wp2_with fail
    go_ret
    exact ⟨rfl, b1⟩
  obtain ⟨k, rfl⟩ : ∃ k : Nat, x = k := ⟨x.toNat, by omega⟩
  obtain ⟨i, hi, hm⟩ := month_day k (by omega)
  obtain ⟨j, hj, hn⟩ := month_day (k + 1) (by omega)
  have hl := inMon_left hm
  have hs := bef_succ i
  have hk1 := hm.1
  have hk2 := hm.2
  have hr := (mon_range (i / 12) (i % 12)).2
  have hD := fun w hg => days_yes (2000 + (i : Int) / 12) (1 + (i : Int) % 12) (i / 12) (i % 12) (by omega) (by omega) (by omega) (by omega) w hg
  have hC := fun w hg => civil_yes i k hi hm w hg
  have hC2 := fun w hg => civil_yes j (k + 1) hj hn w hg
  have ec : (((k + 1 : Nat)) : Int) = (k : Int) + 1 := by omega
  rw [ec] at hC2
  have hmn : mon i = monN (i / 12) (i % 12) := rfl
  rw [hmn] at hl hs
  refine weeks_core k _ _ _ _ _ _ _ (by omega) (by omega) hC hC2 hD (by omega) (by omega) (by omega) ?_ (by omega) (by omega) (by omega) w hg
  by_cases hb : k + 1 < bef (i + 1)
  · obtain rfl : i = j := inMon_one ⟨by omega, hb⟩ hn
    left
    omega
  · have e : j = i + 1 := by
      have hx : InMon (i + 1) (k + 1) := ⟨by omega, by have := bef_lt (i + 1); omega⟩
      exact inMon_one hn hx
    subst e
    right
    by_cases h12 : i % 12 = 11
    · right
      omega
    · left
      omega
end Go.Proofs.YtalghfmdaifcgaaDoor
