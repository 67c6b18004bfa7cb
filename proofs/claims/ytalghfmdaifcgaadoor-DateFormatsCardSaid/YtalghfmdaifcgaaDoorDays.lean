/-
  Plain facts about the months from January 2000 on: their lengths, the days before them, and the month in which a day lies: no program. Condition: none beyond each theorem's own hypotheses.
-/
import Derived.Lib.Strings
namespace Go.Proofs.YtalghfmdaifcgaaDoor

/-- 1 in a leap year 2000 + q. -/
def leapN (q : Nat) : Nat := if q % 4 = 0 then 1 else 0
/-- The days of a common year ahead of its month r + 1. -/
def cumN : Nat → Nat
  | 0 => 0 | 1 => 31 | 2 => 59 | 3 => 90 | 4 => 120 | 5 => 151 | 6 => 181 | 7 => 212 | 8 => 243 | 9 => 273 | 10 => 304 | _ => 334
/-- The days of month r + 1 of the year 2000 + q. -/
def monN (q r : Nat) : Nat := if r = 1 then 28 + leapN q else if r = 3 ∨ r = 5 ∨ r = 8 ∨ r = 10 then 30 else 31
/-- The days ahead of month r + 1 of the year 2000 + q. -/
def befN (q r : Nat) : Nat := q * 365 + (q + 3) / 4 + cumN r + (if 2 ≤ r then leapN q else 0)

theorem bef_next (q r : Nat) (h : r + 1 < 12) : befN q (r + 1) = befN q r + monN q r := by
  unfold befN monN leapN
  match r, h with
  | 0, _ | 1, _ | 2, _ | 3, _ | 4, _ | 5, _ | 6, _ | 7, _ | 8, _ | 9, _ | 10, _ => simp [cumN]; try omega
theorem bef_year (q : Nat) : befN (q + 1) 0 = befN q 11 + monN q 11 := by
  unfold befN monN leapN
  simp [cumN]
  by_cases h : q % 4 = 0
  · rw [if_pos h]; omega
  · rw [if_neg h]; omega
theorem mon_range (q r : Nat) : 28 ≤ monN q r ∧ monN q r ≤ 31 := by
  unfold monN leapN
  repeat' split
  all_goals omega

/-- The days ahead of month i, counted from January 2000 on. -/
def bef (i : Nat) : Nat := befN (i / 12) (i % 12)
/-- The days of month i, counted from January 2000 on. -/
def mon (i : Nat) : Nat := monN (i / 12) (i % 12)
theorem bef_succ (i : Nat) : bef (i + 1) = bef i + mon i := by
  unfold bef mon
  by_cases h : i % 12 = 11
  · rw [show (i + 1) / 12 = i / 12 + 1 by omega, show (i + 1) % 12 = 0 by omega, h, bef_year]
  · rw [show (i + 1) / 12 = i / 12 by omega, show (i + 1) % 12 = i % 12 + 1 by omega, bef_next _ _ (by omega)]
theorem bef_lt (i : Nat) : bef i < bef (i + 1) := by
  have := bef_succ i
  have := (mon_range (i / 12) (i % 12)).1
  unfold mon at *
  omega
theorem bef_le {i j : Nat} (h : i ≤ j) : bef i ≤ bef j := by
  induction j with
  | zero => rw [show i = 0 by omega]; exact Nat.le_refl _
  | succ j ih =>
    by_cases hi : i ≤ j
    · exact Nat.le_trans (ih hi) (Nat.le_of_lt (bef_lt j))
    · rw [show i = j + 1 by omega]; exact Nat.le_refl _
theorem bef_at (q r : Nat) (h : r < 12) : bef (12 * q + r) = befN q r := by
  unfold bef
  rw [show (12 * q + r) / 12 = q by omega, show (12 * q + r) % 12 = r by omega]
theorem bef_zero : bef 0 = 0 := by decide
theorem bef_end : bef 1200 = 36525 := by decide
theorem bef_jan (q : Nat) : bef (12 * q) = q * 365 + (q + 3) / 4 := by
  have := bef_at q 0 (by decide)
  rw [Nat.add_zero] at this
  rw [this]
  simp [befN, cumN]

/-- Day d lies in month i. -/
def InMon (i d : Nat) : Prop := bef i ≤ d ∧ d < bef (i + 1)
theorem month_of (d n : Nat) (h : d < bef n) : ∃ i, i < n ∧ InMon i d := by
  induction n with
  | zero => rw [bef_zero] at h; omega
  | succ n ih =>
    by_cases hn : d < bef n
    · obtain ⟨i, hi, hm⟩ := ih hn
      exact ⟨i, by omega, hm⟩
    · exact ⟨n, by omega, by omega, h⟩
theorem month_day (d : Nat) (h : d ≤ 36524) : ∃ i, i < 1200 ∧ InMon i d := month_of d 1200 (by rw [bef_end]; omega)
theorem inMon_iff {i d : Nat} (h : InMon i d) (j : Nat) : bef j ≤ d ↔ j ≤ i := by
  constructor
  · intro hj
    by_cases hji : j ≤ i
    · exact hji
    · have := bef_le (show i + 1 ≤ j by omega)
      have := h.2
      omega
  · intro hj
    exact Nat.le_trans (bef_le hj) h.1
theorem inMon_day {i d : Nat} (h : InMon i d) (hi : i < 1200) : d ≤ 36524 := by
  have := bef_le (show i + 1 ≤ 1200 by omega)
  have := h.2
  rw [bef_end] at *
  omega
theorem inMon_left {i d : Nat} (h : InMon i d) : d - bef i < mon i := by
  have := bef_succ i
  obtain ⟨h1, h2⟩ := h
  omega
theorem inMon_mk {i k : Nat} (h : k < mon i) : InMon i (bef i + k) := by
  have := bef_succ i
  exact ⟨by omega, by omega⟩
/-- The test of the loop over years. -/
theorem year_step {i d : Nat} (h : InMon i d) (y : Nat) : ((y + 1) * 365 + (y + 1 + 3) / 4 ≤ d) ↔ y < i / 12 := by
  rw [← bef_jan, inMon_iff h]
  omega
/-- The test of the loop over months. -/
theorem mon_step {i d : Nat} (h : InMon i d) (k : Nat) (hk : k ≤ i % 12) : (monN (i / 12) k ≤ d - bef (12 * (i / 12) + k)) ↔ k < i % 12 := by
  have e := bef_succ (12 * (i / 12) + k)
  have m : mon (12 * (i / 12) + k) = monN (i / 12) k := by
    unfold mon
    rw [show (12 * (i / 12) + k) / 12 = i / 12 by omega, show (12 * (i / 12) + k) % 12 = k by omega]
  have b := (inMon_iff h (12 * (i / 12) + k + 1))
  have b0 := (inMon_iff h (12 * (i / 12) + k)).2 (by omega)
  rw [e, m] at b
  constructor
  · intro hx
    have := b.1 (by omega)
    omega
  · intro hx
    have := b.2 (by omega)
    omega
/-- The test of the loop over all months. -/
theorem all_step {i d : Nat} (h : InMon i d) (k : Nat) (hk : k ≤ i) : (d - bef k < mon k) ↔ k = i := by
  have e := bef_succ k
  have b := (inMon_iff h (k + 1))
  have b0 := (inMon_iff h k).2 hk
  rw [e] at b
  constructor
  · intro hx
    by_cases hki : k = i
    · exact hki
    · have := b.2 (by omega)
      omega
  · rintro rfl
    exact inMon_left h
/-- A day lies in one month. -/
theorem inMon_one {i j d : Nat} (h : InMon i d) (g : InMon j d) : i = j := by
  have a := (inMon_iff h j).1 g.1
  have b := (inMon_iff g i).1 h.1
  omega
end Go.Proofs.YtalghfmdaifcgaaDoor
