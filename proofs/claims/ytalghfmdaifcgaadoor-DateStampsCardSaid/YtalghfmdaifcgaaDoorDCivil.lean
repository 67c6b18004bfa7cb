/-
  FromCivil, Civil, Weekday, Absolute and Relative of package date and of its reference: what each call answers; it leaves the world as it was. Condition: the table of the months' lengths holds what its initialiser lays, where a theorem names it.
-/
import Derived.Test.YtalghfmdaifcgaaDoorDInts
namespace Go.Proofs.YtalghfmdaifcgaaDoor
open Go.RowKit

theorem ret_int1 {k : IntKind} {a b : Int} (h : a = b) : Ending.returned (.int k a) = .returned (.int k b) := by rw [h]
theorem ret_intb {a b : Int} {c : Bool} (h : a = b) : Ending.returned (.tuple #[.int .i64 a, .bool c]) = .returned (.tuple #[.int .i64 b, .bool c]) := by rw [h]
theorem beq_no {a b : Int} (h : a ≠ b) : (a == b) = false := by rw [beq_eq_false_iff_ne]; exact h
theorem beq_yes {a b : Int} (h : a = b) : (a == b) = true := by rw [beq_iff_eq]; exact h

theorem rdays_yes (y m : Int) (q r : Nat) (hy : y = 2000 + q) (hq : q < 100) (hm : m = 1 + r) (hr : r < 12) (w : World) :
    Calls Tryd.prog 15 #[.int .i64 y, .int .i64 m] w fun e w' => e = .returned (.tuple #[.int .i64 (monN q r), .bool true]) ∧ w = w' := by
  have g1 : ¬ y < 2000 := by omega
  have g2 : ¬ 2099 < y := by omega
  have g3 : ¬ m < 1 := by omega
  have g4 : ¬ 12 < m := by omega
  have hl := leapB_q y q hy hq
  clear hy
  by_cases h2 : r = 1
  · subst h2
    have t2 : (m == 2) = true := beq_yes (by omega)
    clear hm
    by_cases h4 : q % 4 = 0
    · rw [show decide (q % 4 = 0) = true by simpa using h4] at hl
      have e := Lib.hid (show monN q 1 = 29 from mon_feb q h4)
      go_enter Tryd.func15, Tryd.ntmps15
      go_wp2_with (go_at_call 19; refine (rleap_is _ _ hl _).mono ?_; rintro e w' ⟨rfl, rfl⟩)
      go_ret2
      exact ⟨by rw [e.out]; rfl, rfl⟩
    · rw [show decide (q % 4 = 0) = false by simpa using h4] at hl
      have e := Lib.hid (show monN q 1 = 28 by unfold monN leapN; rw [if_pos rfl, if_neg h4])
      go_enter Tryd.func15, Tryd.ntmps15
      go_wp2_with (go_at_call 19; refine (rleap_is _ _ hl _).mono ?_; rintro e w' ⟨rfl, rfl⟩)
      go_ret2
      exact ⟨by rw [e.out]; rfl, rfl⟩
  · clear hl
    have t2 : (m == 2) = false := beq_no (by omega)
    by_cases h30 : r = 3 ∨ r = 5 ∨ r = 8 ∨ r = 10
    · have e := Lib.hid (show monN q r = 30 by unfold monN; rw [if_neg h2, if_pos h30])
      rcases h30 with rfl | rfl | rfl | rfl
      · obtain rfl : m = 4 := by omega
        go_enter Tryd.func15, Tryd.ntmps15
        go_wp2_with fail
        go_ret2
        exact ⟨by rw [e.out]; rfl, rfl⟩
      · obtain rfl : m = 6 := by omega
        go_enter Tryd.func15, Tryd.ntmps15
        go_wp2_with fail
        go_ret2
        exact ⟨by rw [e.out]; rfl, rfl⟩
      · obtain rfl : m = 9 := by omega
        go_enter Tryd.func15, Tryd.ntmps15
        go_wp2_with fail
        go_ret2
        exact ⟨by rw [e.out]; rfl, rfl⟩
      · obtain rfl : m = 11 := by omega
        go_enter Tryd.func15, Tryd.ntmps15
        go_wp2_with fail
        go_ret2
        exact ⟨by rw [e.out]; rfl, rfl⟩
    · have e := Lib.hid (show monN q r = 31 by unfold monN; rw [if_neg h2, if_neg h30])
      have t4 : (m == 4) = false := beq_no (by omega)
      have t6 : (m == 6) = false := beq_no (by omega)
      have t9 : (m == 9) = false := beq_no (by omega)
      have t11 : (m == 11) = false := beq_no (by omega)
      clear hm
      go_enter Tryd.func15, Tryd.ntmps15
      go_wp2_with fail
      go_ret2
      exact ⟨by rw [e.out]; rfl, rfl⟩
theorem rdays_no (y m : Int) (h : y < 2000 ∨ 2099 < y ∨ m < 1 ∨ 12 < m) (w : World) :
    Calls Tryd.prog 15 #[.int .i64 y, .int .i64 m] w fun e w' => e = .returned (.tuple #[.int .i64 0, .bool false]) ∧ w = w' := by
  by_cases h0 : y < 2000
  · go_enter Tryd.func15, Tryd.ntmps15
    go_wp2_with fail
    go_ret2
    exact ⟨rfl, rfl⟩
  by_cases h1 : 2099 < y
  · go_enter Tryd.func15, Tryd.ntmps15
    go_wp2_with fail
    go_ret2
    exact ⟨rfl, rfl⟩
  by_cases h2 : m < 1
  · go_enter Tryd.func15, Tryd.ntmps15
    go_wp2_with fail
    go_ret2
    exact ⟨rfl, rfl⟩
  · have h3 : 12 < m := by omega
    go_enter Tryd.func15, Tryd.ntmps15
    go_wp2_with fail
    go_ret2
    exact ⟨rfl, rfl⟩

theorem daysBefore_any (y : Int) (q : Nat) (hy : y = 2000 + q) (hq : q ≤ 100) (w : World) :
    Calls Tryd.prog 42 #[.int .i64 y] w fun e w' => e = .returned (.int .i64 (befN q 0)) ∧ w = w' := by
  have h0 : 0 ≤ y - 2000 := by omega
  have h1 : y - 2000 ≤ 100 := by omega
  have e : (y - 2000) * 365 + (y - 2000 + 3) / 4 = (befN q 0 : Int) := by
    have e0 : befN q 0 = q * 365 + (q + 3) / 4 := by simp [befN, cumN]
    omega
  have E := Lib.hid e
  clear e hy
  go_enter Tryd.func42, Tryd.ntmps42
  go_wp2_with fail
  go_ret
  exact ⟨ret_int1 E.out, rfl⟩

theorem fromCivil_yes (y m d : Int) (hp : IsDate y m d) (w : World) (hg : Good w) :
    Calls Tryd.prog 21 #[.int .i64 y, .int .i64 m, .int .i64 d] w fun e w' => e = .returned (.tuple #[.int .i64 (dayOf y m d), .bool true]) ∧ w = w' := by
  obtain ⟨h1, h2, h3, h4, h5, h6⟩ := hp
  obtain ⟨q, hq, rfl⟩ : ∃ q : Nat, q < 100 ∧ y = 2000 + q := ⟨(y - 2000).toNat, by omega, by omega⟩
  obtain ⟨r, hr, rfl⟩ : ∃ r : Nat, r < 12 ∧ m = 1 + r := ⟨(m - 1).toNat, by omega, by omega⟩
  rw [show (2000 + (q : Int) - 2000).toNat = q by omega, show (1 + (r : Int) - 1).toNat = r by omega] at h6
  have hb : ∀ k, k ≤ r → befN q k ≤ 40000 := by
    intro k hk
    have := bef_le (show 12 * q + k ≤ 1200 by omega)
    rw [bef_at q k (by omega), bef_end] at this
    omega
  have hd : dayOf (2000 + (q : Int)) (1 + (r : Int)) d = (befN q r : Int) + d - 1 := by
    unfold dayOf
    rw [show (2000 + (q : Int) - 2000).toNat = q by omega, show (1 + (r : Int) - 1).toNat = r by omega]
  have hd31 : d ≤ 31 := by have := (mon_range q r).2; omega
  have HD := Lib.hid hd
  have HB := Lib.hid hb
  have t1 : ¬ d < 1 := by omega
  have t2 : ¬ (monN q r : Int) < d := by omega
  clear hd hb h1 h2 h3 h4 h6
  go_enter Tryd.func21, Tryd.ntmps21
  go_wp2_with (first | (go_at_call 14; refine (days_yes _ _ q r rfl hq rfl hr _ hg).mono ?_; rintro e w' ⟨rfl, rfl⟩) | (go_at_call 42; refine (daysBefore_any _ q rfl (by omega) _).mono ?_; rintro e w' ⟨rfl, rfl⟩))
  go_loop [10, 11] (fun n i => ∃ k : Nat, k ≤ r ∧ n = .int .i64 (befN q k) ∧ i = .int .i64 (1 + k)) (fun _ i => 12 - (intOf i).toNat)
  case atStart => exact ⟨0, by omega, rfl, rfl⟩
  case round =>
    obtain ⟨k, hk, rfl, rfl⟩ := hrel
    have hbk := HB.out k hk
    by_cases hlt : k < r
    · have hn := Lib.hid (bef_next q k (by omega))
      have hr31 := (mon_range q k).2
      go_wp2_with (go_at_call 41; refine (monthLength_any _ _ q k rfl hq rfl (by omega) _ hg).mono ?_; rintro e w' ⟨rfl, rfl⟩)
      go_round
      case rel => exact ⟨k + 1, by omega, by rw [hn.out]; go_num, by go_num⟩
      case measure => simp [intOf]; omega
    · obtain rfl : k = r := by omega
      go_wp2_with fail
      go_ret2
      exact ⟨ret_intb HD.out.symm, rfl⟩
theorem fromCivil_no (y m d : Int) (hp : ¬ IsDate y m d) (w : World) (hg : Good w) :
    Calls Tryd.prog 21 #[.int .i64 y, .int .i64 m, .int .i64 d] w fun e w' => e = .returned (.tuple #[.int .i64 0, .bool false]) ∧ w = w' := by
  by_cases hym : y < 2000 ∨ 2099 < y ∨ m < 1 ∨ 12 < m
  · clear hp
    go_enter Tryd.func21, Tryd.ntmps21
    go_wp2_with (go_at_call 14; refine (days_no _ _ hym _).mono ?_; rintro e w' ⟨rfl, rfl⟩)
    go_ret2
    exact ⟨rfl, rfl⟩
  · obtain ⟨q, hq, rfl⟩ : ∃ q : Nat, q < 100 ∧ y = 2000 + q := ⟨(y - 2000).toNat, by omega, by omega⟩
    obtain ⟨r, hr, rfl⟩ : ∃ r : Nat, r < 12 ∧ m = 1 + r := ⟨(m - 1).toNat, by omega, by omega⟩
    unfold IsDate at hp
    rw [show (2000 + (q : Int) - 2000).toNat = q by omega, show (1 + (r : Int) - 1).toNat = r by omega] at hp
    have hd : d < 1 ∨ ¬ d < 1 ∧ (monN q r : Int) < d := by omega
    clear hp hym
    rcases hd with hd | ⟨hd, hd2⟩
    · go_enter Tryd.func21, Tryd.ntmps21
      go_wp2_with (go_at_call 14; refine (days_yes _ _ q r rfl hq rfl hr _ hg).mono ?_; rintro e w' ⟨rfl, rfl⟩)
      go_ret2
      exact ⟨rfl, rfl⟩
    · go_enter Tryd.func21, Tryd.ntmps21
      go_wp2_with (go_at_call 14; refine (days_yes _ _ q r rfl hq rfl hr _ hg).mono ?_; rintro e w' ⟨rfl, rfl⟩)
      go_ret2
      exact ⟨rfl, rfl⟩

theorem rfromCivil_yes (y m d : Int) (hp : IsDate y m d) (w : World) :
    Calls Tryd.prog 22 #[.int .i64 y, .int .i64 m, .int .i64 d] w fun e w' => e = .returned (.tuple #[.int .i64 (dayOf y m d), .bool true]) ∧ w = w' := by
  obtain ⟨h1, h2, h3, h4, h5, h6⟩ := hp
  obtain ⟨q, hq, rfl⟩ : ∃ q : Nat, q < 100 ∧ y = 2000 + q := ⟨(y - 2000).toNat, by omega, by omega⟩
  obtain ⟨r, hr, rfl⟩ : ∃ r : Nat, r < 12 ∧ m = 1 + r := ⟨(m - 1).toNat, by omega, by omega⟩
  rw [show (2000 + (q : Int) - 2000).toNat = q by omega, show (1 + (r : Int) - 1).toNat = r by omega] at h6
  have hb : ∀ k, k ≤ 1200 → bef k ≤ 40000 := by
    intro k hk
    have := bef_le hk
    rw [bef_end] at this
    omega
  have hd : dayOf (2000 + (q : Int)) (1 + (r : Int)) d = (bef (12 * q + r) : Int) + d - 1 := by
    unfold dayOf
    rw [show (2000 + (q : Int) - 2000).toNat = q by omega, show (1 + (r : Int) - 1).toNat = r by omega, bef_at q r hr]
  have hd31 : d ≤ 31 := by have := (mon_range q r).2; omega
  have HD := Lib.hid hd
  have HB := Lib.hid hb
  have t1 : ¬ d < 1 := by omega
  have t2 : ¬ (monN q r : Int) < d := by omega
  clear hd hb h1 h2 h3 h4 h6
  go_enter Tryd.func22, Tryd.ntmps22
  go_wp2_with (go_at_call 15; refine (rdays_yes _ _ q r rfl hq rfl hr _).mono ?_; rintro e w' ⟨rfl, rfl⟩)
  go_loop [10, 11] (fun n i => ∃ k : Nat, k ≤ 12 * q + r ∧ n = .int .i64 (bef k) ∧ i = .int .i64 k) (fun _ i => 1200 - (intOf i).toNat)
  case atStart => exact ⟨0, by omega, by rw [bef_zero]; rfl, rfl⟩
  case round =>
    obtain ⟨k, hk, rfl, rfl⟩ := hrel
    have hbk := HB.out k (by omega)
    by_cases hlt : k < 12 * q + r
    · have hn := Lib.hid (bef_succ k)
      have hr31 := (mon_range (k / 12) (k % 12)).2
      have ht : (k : Int) < 12 * (2000 + (q : Int) - 2000) + (1 + (r : Int)) - 1 := by omega
      go_wp2_with (go_at_call 15; refine (rdays_yes _ _ (k / 12) (k % 12) (by omega) (by omega) (by omega) (by omega) _).mono ?_; rintro e w' ⟨rfl, rfl⟩)
      go_round
      case rel => exact ⟨k + 1, by omega, by rw [hn.out]; unfold mon; go_num, by go_num⟩
      case measure => simp [intOf]; omega
    · obtain rfl : k = 12 * q + r := by omega
      have ht : ¬ (((12 * q + r : Nat)) : Int) < 12 * (2000 + (q : Int) - 2000) + (1 + (r : Int)) - 1 := by omega
      go_wp2_with fail
      go_ret2
      exact ⟨ret_intb HD.out.symm, rfl⟩
theorem rfromCivil_no (y m d : Int) (hp : ¬ IsDate y m d) (w : World) :
    Calls Tryd.prog 22 #[.int .i64 y, .int .i64 m, .int .i64 d] w fun e w' => e = .returned (.tuple #[.int .i64 0, .bool false]) ∧ w = w' := by
  by_cases hym : y < 2000 ∨ 2099 < y ∨ m < 1 ∨ 12 < m
  · clear hp
    go_enter Tryd.func22, Tryd.ntmps22
    go_wp2_with (go_at_call 15; refine (rdays_no _ _ hym _).mono ?_; rintro e w' ⟨rfl, rfl⟩)
    go_ret2
    exact ⟨rfl, rfl⟩
  · obtain ⟨q, hq, rfl⟩ : ∃ q : Nat, q < 100 ∧ y = 2000 + q := ⟨(y - 2000).toNat, by omega, by omega⟩
    obtain ⟨r, hr, rfl⟩ : ∃ r : Nat, r < 12 ∧ m = 1 + r := ⟨(m - 1).toNat, by omega, by omega⟩
    unfold IsDate at hp
    rw [show (2000 + (q : Int) - 2000).toNat = q by omega, show (1 + (r : Int) - 1).toNat = r by omega] at hp
    have hd : d < 1 ∨ ¬ d < 1 ∧ (monN q r : Int) < d := by omega
    clear hp hym
    rcases hd with hd | ⟨hd, hd2⟩
    · go_enter Tryd.func22, Tryd.ntmps22
      go_wp2_with (go_at_call 15; refine (rdays_yes _ _ q r rfl hq rfl hr _).mono ?_; rintro e w' ⟨rfl, rfl⟩)
      go_ret2
      exact ⟨rfl, rfl⟩
    · go_enter Tryd.func22, Tryd.ntmps22
      go_wp2_with (go_at_call 15; refine (rdays_yes _ _ q r rfl hq rfl hr _).mono ?_; rintro e w' ⟨rfl, rfl⟩)
      go_ret2
      exact ⟨rfl, rfl⟩

theorem ret_civ {a b c x y z : Int} (h1 : a = x) (h2 : b = y) (h3 : c = z) : Ending.returned (.tuple #[.int .i64 a, .int .i64 b, .int .i64 c, .bool true]) = Ending.returned (.tuple #[.int .i64 x, .int .i64 y, .int .i64 z, .bool true]) := by rw [h1, h2, h3]
set_option maxRecDepth 4000 in
theorem civil_yes (i n : Nat) (hi : i < 1200) (h : InMon i n) (w : World) (hg : Good w) :
    Calls Tryd.prog 23 #[.int .i64 n] w fun e w' => e = .returned (.tuple #[.int .i64 (2000 + i / 12), .int .i64 (1 + i % 12), .int .i64 ((n : Int) - bef i + 1), .bool true]) ∧ w = w' := by
  have hn := inMon_day h hi
  have HI := Lib.hid h
  have HY := Lib.hid (fun y => year_step h y)
  have HM := Lib.hid (fun k hk => mon_step h k hk)
  have HB := Lib.hid (fun j => inMon_iff h j)
  have n0 : (0 : Int) ≤ n := by omega
  have n1 : (n : Int) ≤ 36524 := by omega
  clear h hn
  go_enter Tryd.func23, Tryd.ntmps23
  go_wp2_with (go_at_call 16; refine (dvalid_yes _ n0 n1 _).mono ?_; rintro e w' ⟨rfl, rfl⟩)
  go_loop [6] (fun y => ∃ q : Nat, q ≤ i / 12 ∧ y = .int .i64 (2000 + q)) (fun y => 2100 - (intOf y).toNat)
  case atStart => exact ⟨0, by omega, rfl⟩
  case round =>
    obtain ⟨q, hq, rfl⟩ := hrel
    have hs := HY.out q
    have e0 : befN (q + 1) 0 = (q + 1) * 365 + (q + 1 + 3) / 4 := by simp [befN, cumN]
    by_cases hlt : q < i / 12
    · have ht : (befN (q + 1) 0 : Int) ≤ n := by omega
      clear hs e0
      go_wp2_with (go_at_call 42; refine (daysBefore_any _ (q + 1) (by omega) (by omega) _).mono ?_; rintro e w' ⟨rfl, rfl⟩)
      go_round
      case rel => exact ⟨q + 1, by omega, by go_num⟩
      case measure => simp [intOf]; omega
    · have ht : ¬ (befN (q + 1) 0 : Int) ≤ n := by omega
      clear hs e0
      obtain rfl : q = i / 12 := by omega
      have hb0 := bef_at (i / 12) 0 (by decide)
      have hb1 := (HB.out (12 * (i / 12) + 0)).2 (by omega)
      rw [hb0] at hb1
      clear hb0
      go_wp2_with (first | (go_at_call 42; refine (daysBefore_any _ (i / 12 + 1) (by omega) (by omega) _).mono ?_; rintro e w' ⟨rfl, rfl⟩) | (go_at_call 42; refine (daysBefore_any _ (i / 12) (by omega) (by omega) _).mono ?_; rintro e w' ⟨rfl, rfl⟩))
      clear ht hlt
      go_loop [7, 8] (fun l m => ∃ k : Nat, k ≤ i % 12 ∧ l = .int .i64 ((n : Int) - befN (i / 12) k) ∧ m = .int .i64 (1 + k)) (fun _ m => 20 - (intOf m).toNat)
      case atStart => exact ⟨0, by omega, rfl, rfl⟩
      case round =>
        obtain ⟨k, hk, rfl, rfl⟩ := hrel
        have hs := HM.out k hk
        have hb := bef_at (i / 12) k (by omega)
        have hb2 := (HB.out (12 * (i / 12) + k)).2 (by omega)
        rw [hb] at hs hb2
        by_cases hlt : k < i % 12
        · have ht : (monN (i / 12) k : Int) ≤ (n : Int) - befN (i / 12) k := by omega
          have hx := Lib.hid (bef_next (i / 12) k (by omega))
          have hr31 := (mon_range (i / 12) k).2
          clear hs hb
          go_wp2_with (go_at_call 41; refine (monthLength_any _ _ (i / 12) k (by omega) (by omega) rfl (by omega) _ hg).mono ?_; rintro e w' ⟨rfl, rfl⟩)
          go_round
          case rel => exact ⟨k + 1, by omega, by rw [hx.out]; go_num, by go_num⟩
          case measure => simp [intOf]; omega
        · have ht : ¬ (monN (i / 12) k : Int) ≤ (n : Int) - befN (i / 12) k := by omega
          obtain rfl : k = i % 12 := by omega
          have hE := Lib.hid (show bef i = befN (i / 12) (i % 12) from rfl)
          clear hs hb
          go_wp2_with (go_at_call 41; refine (monthLength_any _ _ (i / 12) (i % 12) (by omega) (by omega) rfl (by omega) _ hg).mono ?_; rintro e w' ⟨rfl, rfl⟩)
          refine bodyPost_ret (results_tmp4 rfl _ _ _) rfl ?_
          exact ⟨ret_civ (by omega) (by omega) (by rw [hE.out]), rfl⟩
theorem civil_no (n : Int) (h : n < 0 ∨ 36524 < n) (w : World) :
    Calls Tryd.prog 23 #[.int .i64 n] w fun e w' => e = .returned (.tuple #[.int .i64 0, .int .i64 0, .int .i64 0, .bool false]) ∧ w = w' := by
  go_enter Tryd.func23, Tryd.ntmps23
  go_wp2_with (go_at_call 16; refine (dvalid_no _ h _).mono ?_; rintro e w' ⟨rfl, rfl⟩)
  refine bodyPost_ret (results_tmp4 rfl _ _ _) rfl ?_
  exact ⟨rfl, rfl⟩
set_option maxRecDepth 4000 in
theorem rcivil_yes (i n : Nat) (hi : i < 1200) (h : InMon i n) (w : World) :
    Calls Tryd.prog 24 #[.int .i64 n] w fun e w' => e = .returned (.tuple #[.int .i64 (2000 + i / 12), .int .i64 (1 + i % 12), .int .i64 ((n : Int) - bef i + 1), .bool true]) ∧ w = w' := by
  have hn := inMon_day h hi
  have HI := Lib.hid h
  have HM := Lib.hid (fun k hk => all_step h k hk)
  have HB := Lib.hid (fun j => inMon_iff h j)
  have n0 : (0 : Int) ≤ n := by omega
  have n1 : (n : Int) ≤ 36524 := by omega
  clear h hn
  go_enter Tryd.func24, Tryd.ntmps24
  go_wp2_with (go_at_call 17; refine (rdvalid_yes _ n0 n1 _).mono ?_; rintro e w' ⟨rfl, rfl⟩)
  go_loop [6, 7] (fun l m => ∃ (k : Nat) (L : Int), k ≤ i ∧ Hid (L = (n : Int) - bef k) ∧ l = .int .i64 L ∧ m = .int .i64 k) (fun _ m => 1200 - (intOf m).toNat)
  case atStart => exact ⟨0, n, by omega, Lib.hid (by rw [bef_zero]; omega), rfl, rfl⟩
  case round =>
    obtain ⟨k, L, hk, hL, rfl, rfl⟩ := hrel
    have hs := HM.out k hk
    have hb2 := (HB.out k).2 hk
    have hm : mon k = monN (k / 12) (k % 12) := rfl
    have hLL := hL.out
    have hr31 := (mon_range (k / 12) (k % 12)).2
    have k1 : (k : Int) < 1200 := by omega
    have D := Lib.hid (fun w => rdays_yes (2000 + (k : Int) / 12) (1 + (k : Int) % 12) (k / 12) (k % 12) (by omega) (by omega) (by omega) (by omega) w)
    rw [hm] at hs
    have hx := bef_succ k
    rw [hm] at hx
    generalize monN (k / 12) (k % 12) = M at hs hr31 D hm hx
    have l0 : 0 ≤ L := by omega
    have l1 : L ≤ 36524 := by omega
    have HX := Lib.hid hx
    by_cases hlt : k = i
    · have ht : L < (M : Int) := by omega
      have HK := Lib.hid hlt
      clear hs hm hlt hLL hx
      go_wp2_with (go_at_call 15; refine (D.out _).mono ?_; rintro e w' ⟨rfl, rfl⟩)
      refine bodyPost_ret (results_tmp4 rfl _ _ _) rfl ?_
      have hlt := HK.out
      have hL := hL.out
      exact ⟨ret_civ (by omega) (by omega) (by rw [hL, hlt]), rfl⟩
    · have ht : decide (L < (M : Int)) = false := by simp; omega
      have HN := Lib.hid hlt
      clear hs hm hlt hLL hx
      go_wp2_with (go_at_call 15; refine (D.out _).mono ?_; rintro e w' ⟨rfl, rfl⟩)
      go_round
      case rel => exact ⟨k + 1, L - M, by have := HN.out; omega, Lib.hid (by have := hL.out; have := HX.out; omega), rfl, by go_num⟩
      case measure => simp [intOf]; omega
theorem rcivil_no (n : Int) (h : n < 0 ∨ 36524 < n) (w : World) :
    Calls Tryd.prog 24 #[.int .i64 n] w fun e w' => e = .returned (.tuple #[.int .i64 0, .int .i64 0, .int .i64 0, .bool false]) ∧ w = w' := by
  go_enter Tryd.func24, Tryd.ntmps24
  go_wp2_with (go_at_call 17; refine (rdvalid_no _ h _).mono ?_; rintro e w' ⟨rfl, rfl⟩)
  refine bodyPost_ret (results_tmp4 rfl _ _ _) rfl ?_
  exact ⟨rfl, rfl⟩

theorem weekday_yes (n : Int) (h0 : 0 ≤ n) (h1 : n ≤ 36524) (w : World) :
    Calls Tryd.prog 25 #[.int .i64 n] w fun e w' => e = .returned (.tuple #[.int .i64 ((n + 5) % 7), .bool true]) ∧ w = w' := by
  go_enter Tryd.func25, Tryd.ntmps25
  go_wp2_with (go_at_call 16; refine (dvalid_yes _ h0 h1 _).mono ?_; rintro e w' ⟨rfl, rfl⟩)
  go_ret2
  exact ⟨rfl, rfl⟩
theorem weekday_no (n : Int) (h : n < 0 ∨ 36524 < n) (w : World) :
    Calls Tryd.prog 25 #[.int .i64 n] w fun e w' => e = .returned (.tuple #[.int .i64 0, .bool false]) ∧ w = w' := by
  go_enter Tryd.func25, Tryd.ntmps25
  go_wp2_with (go_at_call 16; refine (dvalid_no _ h _).mono ?_; rintro e w' ⟨rfl, rfl⟩)
  go_ret2
  exact ⟨rfl, rfl⟩
theorem rweekday_yes (n : Int) (h0 : 0 ≤ n) (h1 : n ≤ 36524) (w : World) :
    Calls Tryd.prog 26 #[.int .i64 n] w fun e w' => e = .returned (.tuple #[.int .i64 ((n + 5) % 7), .bool true]) ∧ w = w' := by
  go_enter Tryd.func26, Tryd.ntmps26
  go_wp2_with (go_at_call 17; refine (rdvalid_yes _ h0 h1 _).mono ?_; rintro e w' ⟨rfl, rfl⟩)
  go_ret2
  exact ⟨rfl, rfl⟩
theorem rweekday_no (n : Int) (h : n < 0 ∨ 36524 < n) (w : World) :
    Calls Tryd.prog 26 #[.int .i64 n] w fun e w' => e = .returned (.tuple #[.int .i64 0, .bool false]) ∧ w = w' := by
  go_enter Tryd.func26, Tryd.ntmps26
  go_wp2_with (go_at_call 17; refine (rdvalid_no _ h _).mono ?_; rintro e w' ⟨rfl, rfl⟩)
  go_ret2
  exact ⟨rfl, rfl⟩

theorem absolute_yes (n t : Int) (h0 : 0 ≤ n) (h1 : n ≤ 36524) (t0 : 0 ≤ t) (t1 : t ≤ 172800) (w : World) :
    Calls Tryd.prog 31 #[.int .i64 n, .int .i64 t] w fun e w' => e = .returned (.tuple #[.int .i64 (n * 86400 + t), .bool true]) ∧ w = w' := by
  go_enter Tryd.func31, Tryd.ntmps31
  go_wp2_with (first | (go_at_call 16; refine (dvalid_yes _ h0 h1 _).mono ?_; rintro e w' ⟨rfl, rfl⟩) | (go_at_call 50; refine (valid_yes _ t0 t1 _).mono ?_; rintro e w' ⟨rfl, rfl⟩))
  go_ret2
  exact ⟨rfl, rfl⟩
theorem absolute_no (n t : Int) (h : (n < 0 ∨ 36524 < n) ∨ (0 ≤ n ∧ n ≤ 36524) ∧ (t < 0 ∨ 172800 < t)) (w : World) :
    Calls Tryd.prog 31 #[.int .i64 n, .int .i64 t] w fun e w' => e = .returned (.tuple #[.int .i64 0, .bool false]) ∧ w = w' := by
  rcases h with h | ⟨⟨h0, h1⟩, h⟩
  · go_enter Tryd.func31, Tryd.ntmps31
    go_wp2_with (go_at_call 16; refine (dvalid_no _ h _).mono ?_; rintro e w' ⟨rfl, rfl⟩)
    go_ret2
    exact ⟨rfl, rfl⟩
  · go_enter Tryd.func31, Tryd.ntmps31
    go_wp2_with (first | (go_at_call 16; refine (dvalid_yes _ h0 h1 _).mono ?_; rintro e w' ⟨rfl, rfl⟩) | (go_at_call 50; refine (valid_no _ h _).mono ?_; rintro e w' ⟨rfl, rfl⟩))
    go_ret2
    exact ⟨rfl, rfl⟩
theorem rabsolute_yes (n t : Int) (h0 : 0 ≤ n) (h1 : n ≤ 36524) (t0 : 0 ≤ t) (t1 : t ≤ 172800) (w : World) :
    Calls Tryd.prog 32 #[.int .i64 n, .int .i64 t] w fun e w' => e = .returned (.tuple #[.int .i64 (n * 86400 + t), .bool true]) ∧ w = w' := by
  go_enter Tryd.func32, Tryd.ntmps32
  go_wp2_with (first | (go_at_call 17; refine (rdvalid_yes _ h0 h1 _).mono ?_; rintro e w' ⟨rfl, rfl⟩) | (go_at_call 51; refine (rvalid_yes _ t0 t1 _).mono ?_; rintro e w' ⟨rfl, rfl⟩))
  go_ret2
  exact ⟨rfl, rfl⟩
theorem rabsolute_no (n t : Int) (h : (n < 0 ∨ 36524 < n) ∨ (0 ≤ n ∧ n ≤ 36524) ∧ (t < 0 ∨ 172800 < t)) (w : World) :
    Calls Tryd.prog 32 #[.int .i64 n, .int .i64 t] w fun e w' => e = .returned (.tuple #[.int .i64 0, .bool false]) ∧ w = w' := by
  rcases h with h | ⟨⟨h0, h1⟩, h⟩
  · go_enter Tryd.func32, Tryd.ntmps32
    go_wp2_with (go_at_call 17; refine (rdvalid_no _ h _).mono ?_; rintro e w' ⟨rfl, rfl⟩)
    go_ret2
    exact ⟨rfl, rfl⟩
  · go_enter Tryd.func32, Tryd.ntmps32
    go_wp2_with (first | (go_at_call 17; refine (rdvalid_yes _ h0 h1 _).mono ?_; rintro e w' ⟨rfl, rfl⟩) | (go_at_call 51; refine (rvalid_no _ h _).mono ?_; rintro e w' ⟨rfl, rfl⟩))
    go_ret2
    exact ⟨rfl, rfl⟩

theorem relative_yes (a : Int) (h0 : 0 ≤ a) (h1 : a / 86400 ≤ 36524) (w : World) :
    Calls Tryd.prog 33 #[.int .i64 a] w fun e w' => e = .returned (.tuple #[.int .i64 (a / 86400), .int .i64 (a % 86400), .bool true]) ∧ w = w' := by
  have t0 : ¬ a < 0 := by omega
  have g0 : 0 ≤ a / 86400 := by omega
  go_enter Tryd.func33, Tryd.ntmps33
  go_wp2_with (go_at_call 16; refine (dvalid_yes _ g0 h1 _).mono ?_; rintro e w' ⟨rfl, rfl⟩)
  go_ret3
  exact ⟨rfl, rfl⟩
theorem relative_no (a : Int) (ha : a ≤ 9223372036854775807) (h : a < 0 ∨ 0 ≤ a ∧ 36524 < a / 86400) (w : World) :
    Calls Tryd.prog 33 #[.int .i64 a] w fun e w' => e = .returned (.tuple #[.int .i64 0, .int .i64 0, .bool false]) ∧ w = w' := by
  rcases h with h | ⟨h0, h1⟩
  · go_enter Tryd.func33, Tryd.ntmps33
    go_wp2_with fail
    go_ret3
    exact ⟨rfl, rfl⟩
  · have t0 : ¬ a < 0 := by omega
    have hv : a / 86400 < 0 ∨ 36524 < a / 86400 := Or.inr h1
    have HV := Lib.hid hv
    clear hv
    go_enter Tryd.func33, Tryd.ntmps33
    go_wp2_with (go_at_call 16; refine (dvalid_no (a / 86400) HV.out _).mono ?_; rintro e w' ⟨rfl, rfl⟩)
    go_ret3
    exact ⟨rfl, rfl⟩
theorem rrelative_yes (a : Int) (h0 : 0 ≤ a) (h1 : a / 86400 ≤ 36524) (w : World) :
    Calls Tryd.prog 34 #[.int .i64 a] w fun e w' => e = .returned (.tuple #[.int .i64 (a / 86400), .int .i64 (a % 86400), .bool true]) ∧ w = w' := by
  have t0 : ¬ a < 0 := by omega
  have g0 : 0 ≤ a / 86400 := by omega
  go_enter Tryd.func34, Tryd.ntmps34
  go_wp2_with (go_at_call 17; refine (rdvalid_yes _ g0 h1 _).mono ?_; rintro e w' ⟨rfl, rfl⟩)
  go_ret3
  exact ⟨rfl, rfl⟩
theorem rrelative_no (a : Int) (ha : a ≤ 9223372036854775807) (h : a < 0 ∨ 0 ≤ a ∧ 36524 < a / 86400) (w : World) :
    Calls Tryd.prog 34 #[.int .i64 a] w fun e w' => e = .returned (.tuple #[.int .i64 0, .int .i64 0, .bool false]) ∧ w = w' := by
  rcases h with h | ⟨h0, h1⟩
  · go_enter Tryd.func34, Tryd.ntmps34
    go_wp2_with fail
    go_ret3
    exact ⟨rfl, rfl⟩
  · have t0 : ¬ a < 0 := by omega
    have hv : a / 86400 < 0 ∨ 36524 < a / 86400 := Or.inr h1
    have HV := Lib.hid hv
    clear hv
    go_enter Tryd.func34, Tryd.ntmps34
    go_wp2_with (go_at_call 17; refine (rdvalid_no (a / 86400) HV.out _).mono ?_; rintro e w' ⟨rfl, rfl⟩)
    go_ret3
    exact ⟨rfl, rfl⟩
end Go.Proofs.YtalghfmdaifcgaaDoor
