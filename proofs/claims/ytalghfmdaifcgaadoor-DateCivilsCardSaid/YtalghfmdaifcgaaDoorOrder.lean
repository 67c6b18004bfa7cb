/-
  Plain facts: the texts of two times of day compare bytewise as the times do. Condition: both are times of day.
-/
import Derived.Test.YtalghfmdaifcgaaDoorDurs
import GoSem.Op.String
namespace Go.Proofs.YtalghfmdaifcgaaDoor
open Go

theorem less_app : ∀ (x y u v : List UInt8), x.length = y.length → Op.bytesLess (x ++ u) (y ++ v) = (Op.bytesLess x y || (x == y && Op.bytesLess u v))
  | [], [], u, v, _ => by simp [Op.bytesLess]
  | a :: x, b :: y, u, v, h => by
    have ih := less_app x y u v (by simpa using h)
    simp only [List.cons_append, Op.bytesLess, ih]
    by_cases hl : a < b
    · simp [hl]
    · by_cases he : a = b
      · subst he
        simp [hl]
      · have h1 : (a == b) = false := by rw [beq_eq_false_iff_ne]; exact he
        have h2 : (a :: x == b :: y) = false := by rw [beq_eq_false_iff_ne]; intro hc; cases hc; exact he rfl
        simp [hl, h1, h2]
theorem digit_lt (a c : Nat) (ha : a < 10) (hc : c < 10) : (UInt8.ofNat (48 + a) < UInt8.ofNat (48 + c)) = (a < c) := by
  rw [UInt8.lt_iff_toNat_lt, ofNat_toNat a ha, ofNat_toNat c hc]
  exact propext ⟨fun h => by omega, fun h => by omega⟩
theorem digit_eq (a c : Nat) (ha : a < 10) (hc : c < 10) : (UInt8.ofNat (48 + a) = UInt8.ofNat (48 + c)) = (a = c) := by
  refine propext ⟨fun h => ?_, fun h => by rw [h]⟩
  have := congrArg UInt8.toNat h
  rw [ofNat_toNat a ha, ofNat_toNat c hc] at this
  omega
theorem two_less (x y : Int) (x0 : 0 ≤ x) (x1 : x < 100) (y0 : 0 ≤ y) (y1 : y < 100) : Op.bytesLess (two x) (two y) = decide (x < y) := by
  have a1 : x.toNat / 10 < 10 := by omega
  have a2 : x.toNat % 10 < 10 := by omega
  have b1 : y.toNat / 10 < 10 := by omega
  have b2 : y.toNat % 10 < 10 := by omega
  unfold two
  simp only [Op.bytesLess, Bool.and_false, Bool.or_false]
  rw [Bool.eq_iff_iff]
  simp only [Bool.or_eq_true, Bool.and_eq_true, decide_eq_true_eq, beq_iff_eq]
  rw [digit_lt _ _ a1 b1, digit_lt _ _ a2 b2, digit_eq _ _ a1 b1]
  omega
theorem two_same (x y : Int) (x0 : 0 ≤ x) (x1 : x < 100) (y0 : 0 ≤ y) (y1 : y < 100) : (two x == two y) = decide (x = y) := by
  rw [Bool.eq_iff_iff, beq_iff_eq, decide_eq_true_eq]
  refine ⟨fun h => ?_, fun h => by rw [h]⟩
  have := congrArg valN h
  rw [two_val x x1, two_val y y1] at this
  omega
theorem time_less (a b : Int) (a0 : 0 ≤ a) (a1 : a ≤ 172800) (b0 : 0 ≤ b) (b1 : b ≤ 172800) : Op.bytesLess (timeText a) (timeText b) = decide (a < b) := by
  unfold timeText
  simp only [List.append_assoc]
  rw [less_app (two (a / 3600)) (two (b / 3600)) _ _ rfl, less_app [58] [58] _ _ rfl, less_app (two (a % 3600 / 60)) (two (b % 3600 / 60)) _ _ rfl, less_app [58] [58] _ _ rfl,
    two_less _ _ (by omega) (by omega) (by omega) (by omega), two_less _ _ (by omega) (by omega) (by omega) (by omega), two_less _ _ (by omega) (by omega) (by omega) (by omega),
    two_same _ _ (by omega) (by omega) (by omega) (by omega), two_same _ _ (by omega) (by omega) (by omega) (by omega)]
  have h58 : Op.bytesLess [58] [58] = false := by decide
  have e58 : (([58] : List UInt8) == [58]) = true := by decide
  rw [h58, e58, Bool.eq_iff_iff]
  simp only [Bool.or_eq_true, Bool.and_eq_true, decide_eq_true_eq, Bool.false_or, Bool.true_and]
  omega
theorem time_same (a b : Int) (a0 : 0 ≤ a) (a1 : a ≤ 172800) (b0 : 0 ≤ b) (b1 : b ≤ 172800) : (timeText a == timeText b) = decide (a = b) := by
  rw [Bool.eq_iff_iff, beq_iff_eq, decide_eq_true_eq]
  refine ⟨fun h => ?_, fun h => by rw [h]⟩
  have ha := time_there a a0 a1
  rw [h, time_there b b0 b1] at ha
  exact (congrArg Prod.fst ha).symm
end Go.Proofs.YtalghfmdaifcgaaDoor
