/-
  Plain facts: formatting and parsing of moments are inverse to each other; texts of days and of moments compare bytewise as the numbers do: no program. Condition: the ranges that each theorem names.
-/
import Derived.Test.YtalghfmdaifcgaaDoorDates
import Derived.Test.YtalghfmdaifcgaaDoorOrder
namespace Go.Proofs.YtalghfmdaifcgaaDoor
open Go

/-- What a text denotes as a moment. -/
def momR (l : List UInt8) : Int × Int :=
  if fits momP l = true then
    if (dayR (l.take 10)).2 = 0 then
      if pairN l 11 ≤ 23 ∧ pairN l 14 ≤ 59 ∧ pairN l 17 ≤ 59 then ((dayR (l.take 10)).1 * 86400 + (pairN l 11 : Int) * 3600 + (pairN l 14 : Int) * 60 + (pairN l 17 : Int), 0) else (0, 10)
    else (0, (dayR (l.take 10)).2)
  else (0, 3)
/-- What the parts of a text of the right length and with a T denote. -/
def partsR (d t : Int × Int) : Int × Int :=
  if t.2 = 3 then (0, 3) else if d.2 ≠ 0 then (0, d.2) else if t.2 ≠ 0 ∨ 86400 ≤ t.1 then (0, 10) else (d.1 * 86400 + t.1, 0)

theorem nineteen (l : List UInt8) (h : l.length = 19) : ∃ x, l = l.take 10 ++ ([x] ++ l.drop 11) ∧ l[10]? = some x := by
  match l, h with
  | [a0, a1, a2, a3, a4, a5, a6, a7, a8, a9, x, b0, b1, b2, b3, b4, b5, b6, b7], _ => exact ⟨x, rfl, rfl⟩
theorem mom_fits (l : List UInt8) (h : l.length = 19) : fits momP l = (fits dayP (l.take 10) && (l[10]? == some 84) && fits timeP (l.drop 11)) := by
  obtain ⟨x, hx, h10⟩ := nineteen l h
  have e : momP = dayP ++ ([84] ++ timeP) := rfl
  rw [h10]
  conv => lhs; rw [hx, e]
  rw [fits_app _ _ _ _ (by rw [List.length_take, h]; rfl), fits_app [84] timeP [x] _ rfl]
  simp [fits, okP, Bool.and_assoc]
theorem pair_drop (l : List UInt8) (a : Nat) : pairN (l.drop 11) a = pairN l (11 + a) := by
  unfold pairN
  rw [List.drop_drop]
theorem timeR_form (l : List UInt8) (h : timeForm l = false) : timeR l = (0, 3) := by
  unfold timeR; rw [h]; rfl
theorem dayR_three (l : List UInt8) (h : fits dayP l = true) : (dayR l).2 ≠ 3 := by
  by_cases hp : IsDate (val4 l) (pairN l 5) (pairN l 8)
  · rw [dayR_yes l h hp]; exact fun h => by cases h
  · rw [dayR_date l h hp]; exact fun h => by cases h
/-- The parts' answers make the whole text's. -/
theorem parts_mom (l : List UInt8) (h : l.length = 19) (hT : l[10]? = some 84) : partsR (dayR (l.take 10)) (timeR (l.drop 11)) = momR l := by
  have hf := mom_fits l h
  have e1 : pairN (l.drop 11) 0 = pairN l 11 := pair_drop l 0
  have e2 : pairN (l.drop 11) 3 = pairN l 14 := pair_drop l 3
  have e3 : pairN (l.drop 11) 6 = pairN l 17 := pair_drop l 6
  have ht : (l[10]? == some 84) = true := by rw [hT]; decide
  rw [ht, Bool.and_true, ← timeForm_fits] at hf
  unfold partsR momR
  rw [hf]
  cases htf : timeForm (l.drop 11) with
  | false =>
    rw [timeR_form _ htf, Bool.and_false]
    rfl
  | true =>
    have ht3 : (timeR (l.drop 11)).2 ≠ 3 := by
      unfold timeR
      rw [if_pos htf]
      split
      · exact fun h => by cases h
      · exact fun h => by cases h
    rw [if_neg ht3, Bool.and_true]
    cases hdf : fits dayP (l.take 10) with
    | false => rw [dayR_syntax _ hdf]; rfl
    | true =>
      rw [if_pos rfl]
      by_cases hd : (dayR (l.take 10)).2 = 0
      · rw [if_neg (by omega), if_pos hd]
        unfold timeR
        rw [if_pos htf, e1, e2, e3]
        by_cases hp : Parts (pairN l 11) (pairN l 14) (pairN l 17)
        · have hq := hp
          unfold Parts at hq
          rw [if_pos hp]
          by_cases hh : pairN l 11 ≤ 23 ∧ pairN l 14 ≤ 59 ∧ pairN l 17 ≤ 59
          · rw [if_pos hh, if_neg (by simp only; omega)]
            simp only [Prod.mk.injEq, and_true]
            omega
          · rw [if_neg hh, if_pos (by simp only; omega)]
        · rw [if_neg hp, if_pos (Or.inl (by decide)), if_neg (by unfold Parts at hp; omega)]
      · rw [if_pos hd, if_neg hd]
theorem mom_else (l : List UInt8) (h : ¬ (l.length = 19 ∧ l[10]? = some 84)) : momR l = (0, 3) := by
  have hf : fits momP l = false := by
    by_cases hl : l.length = 19
    · rw [mom_fits l hl]
      have : (l[10]? == some 84) = false := by rw [beq_eq_false_iff_ne]; exact fun hc => h ⟨hl, hc⟩
      rw [this]
      simp
    · exact fits_short momP l hl
  unfold momR
  rw [hf]
  rfl

/-- The text of the moment at the time t of day n, which lies in month i. -/
def mText (i n : Nat) (t : Int) : List UInt8 := dText i n ++ [84] ++ timeText t
theorem mText_len (i n : Nat) (t : Int) : (mText i n t).length = 19 := rfl
theorem mom_there (i n : Nat) (t : Int) (hi : i < 1200) (h : InMon i n) (t0 : 0 ≤ t) (t1 : t < 86400) : momR (mText i n t) = ((n : Int) * 86400 + t, 0) := by
  rw [← parts_mom (mText i n t) rfl rfl]
  rw [show (mText i n t).take 10 = dText i n from rfl, show (mText i n t).drop 11 = timeText t from rfl, day_there i n hi h, time_there t t0 (by omega)]
  unfold partsR
  rw [if_neg (fun h => by cases h), if_neg (fun h => h rfl), if_neg (by simp only; omega)]
theorem mom_back (l : List UInt8) (h : (momR l).2 = 0) : ∃ (i n : Nat) (t : Int), i < 1200 ∧ InMon i n ∧ 0 ≤ t ∧ t < 86400 ∧ momR l = ((n : Int) * 86400 + t, 0) ∧ mText i n t = l := by
  by_cases hl : l.length = 19 ∧ l[10]? = some 84
  · have e := parts_mom l hl.1 hl.2
    rw [← e] at h ⊢
    unfold partsR at h ⊢
    by_cases h3 : (timeR (l.drop 11)).2 = 3
    · rw [if_pos h3] at h; cases h
    rw [if_neg h3] at h ⊢
    by_cases hd : (dayR (l.take 10)).2 = 0
    · rw [if_neg (by omega)] at h ⊢
      by_cases ht : (timeR (l.drop 11)).2 ≠ 0 ∨ 86400 ≤ (timeR (l.drop 11)).1
      · rw [if_pos ht] at h; cases h
      rw [if_neg ht]
      obtain ⟨i, n, hi, hm, hr, hx⟩ := date_back _ hd
      obtain ⟨t0, -, hy⟩ := time_back (l.drop 11) (by omega)
      refine ⟨i, n, (timeR (l.drop 11)).1, hi, hm, t0, by omega, by rw [hr], ?_⟩
      obtain ⟨x, hz, h10⟩ := nineteen l hl.1
      obtain rfl := Option.some.inj (h10.symm.trans hl.2)
      unfold mText
      rw [hx, hy, List.append_assoc]
      exact hz.symm
    · rw [if_pos hd] at h
      exact absurd h hd
  · rw [mom_else l hl] at h
    cases h

theorem four_less (x y : Int) (x0 : 0 ≤ x) (x1 : x < 10000) (y0 : 0 ≤ y) (y1 : y < 10000) : Op.bytesLess (four x) (four y) = decide (x < y) := by
  unfold four
  rw [less_app (two (x / 100)) (two (y / 100)) _ _ rfl, two_less _ _ (by omega) (by omega) (by omega) (by omega), two_less _ _ (by omega) (by omega) (by omega) (by omega), two_same _ _ (by omega) (by omega) (by omega) (by omega), Bool.eq_iff_iff]
  simp only [Bool.or_eq_true, Bool.and_eq_true, decide_eq_true_eq]
  omega
theorem four_same (x y : Int) (x0 : 0 ≤ x) (x1 : x < 10000) (y0 : 0 ≤ y) (y1 : y < 10000) : (four x == four y) = decide (x = y) := by
  rw [Bool.eq_iff_iff, beq_iff_eq, decide_eq_true_eq]
  refine ⟨fun h => ?_, fun h => by rw [h]⟩
  have := congrArg valN h
  rw [four_val x x0 x1, four_val y y0 y1] at this
  omega
theorem mon_order (i j a b : Nat) (h : InMon i a) (g : InMon j b) : a < b ↔ i < j ∨ i = j ∧ a - bef i < b - bef j := by
  have := h.1
  have := g.1
  by_cases hij : i < j
  · have := bef_le (show i + 1 ≤ j by omega)
    have := h.2
    constructor
    · intro _; exact Or.inl hij
    · intro _; omega
  · by_cases hji : i = j
    · subst hji; omega
    · have := bef_le (show j + 1 ≤ i by omega)
      have := g.2
      omega
theorem day_less (i j a b : Nat) (hi : i < 1200) (hj : j < 1200) (h : InMon i a) (g : InMon j b) : Op.bytesLess (dText i a) (dText j b) = decide (a < b) := by
  have ho := mon_order i j a b h g
  have hl := inMon_left h
  have gl := inMon_left g
  have hr := (mon_range (i / 12) (i % 12)).2
  have gr := (mon_range (j / 12) (j % 12)).2
  have h0 := h.1
  have g0 := g.1
  unfold mon at hl gl
  unfold dText dateText
  simp only [List.append_assoc]
  have h45 : Op.bytesLess [45] [45] = false := by decide
  have e45 : (([45] : List UInt8) == [45]) = true := by decide
  rw [less_app (four (2000 + (i : Int) / 12)) (four (2000 + (j : Int) / 12)) _ _ rfl, less_app [45] [45] _ _ rfl, less_app (two (1 + (i : Int) % 12)) (two (1 + (j : Int) % 12)) _ _ rfl, less_app [45] [45] _ _ rfl,
    four_less _ _ (by omega) (by omega) (by omega) (by omega), two_less _ _ (by omega) (by omega) (by omega) (by omega), two_less _ _ (by omega) (by omega) (by omega) (by omega),
    four_same _ _ (by omega) (by omega) (by omega) (by omega), two_same _ _ (by omega) (by omega) (by omega) (by omega), h45, e45, Bool.eq_iff_iff]
  simp only [Bool.or_eq_true, Bool.and_eq_true, decide_eq_true_eq, Bool.false_or, Bool.true_and]
  omega
theorem day_same (i j a b : Nat) (hi : i < 1200) (hj : j < 1200) (h : InMon i a) (g : InMon j b) : (dText i a == dText j b) = decide (a = b) := by
  rw [Bool.eq_iff_iff, beq_iff_eq, decide_eq_true_eq]
  constructor
  · intro e
    have ha := day_there i a hi h
    rw [e, day_there j b hj g] at ha
    have := congrArg Prod.fst ha
    simp only at this
    omega
  · rintro rfl
    rw [inMon_one h g]
theorem mom_less (i j a b : Nat) (t u : Int) (hi : i < 1200) (hj : j < 1200) (h : InMon i a) (g : InMon j b) (t0 : 0 ≤ t) (t1 : t < 86400) (u0 : 0 ≤ u) (u1 : u < 86400) :
    Op.bytesLess (mText i a t) (mText j b u) = decide ((a : Int) * 86400 + t < (b : Int) * 86400 + u) := by
  unfold mText
  simp only [List.append_assoc]
  have h84 : Op.bytesLess [84] [84] = false := by decide
  have e84 : (([84] : List UInt8) == [84]) = true := by decide
  rw [less_app (dText i a) (dText j b) _ _ rfl, less_app [84] [84] _ _ rfl, day_less i j a b hi hj h g, day_same i j a b hi hj h g, time_less t u t0 (by omega) u0 (by omega), h84, e84, Bool.eq_iff_iff]
  simp only [Bool.or_eq_true, Bool.and_eq_true, decide_eq_true_eq, Bool.false_or, Bool.true_and]
  omega
theorem mom_same (i j a b : Nat) (t u : Int) (hi : i < 1200) (hj : j < 1200) (h : InMon i a) (g : InMon j b) (t0 : 0 ≤ t) (t1 : t < 86400) (u0 : 0 ≤ u) (u1 : u < 86400) :
    (mText i a t == mText j b u) = decide ((a : Int) * 86400 + t = (b : Int) * 86400 + u) := by
  rw [Bool.eq_iff_iff, beq_iff_eq, decide_eq_true_eq]
  constructor
  · intro e
    have ha := mom_there i a t hi h t0 t1
    rw [e, mom_there j b u hj g u0 u1] at ha
    exact (congrArg Prod.fst ha).symm
  · intro e
    have e1 : a = b := by omega
    have e2 : t = u := by omega
    subst e1 e2
    rw [inMon_one h g]
end Go.Proofs.YtalghfmdaifcgaaDoor
