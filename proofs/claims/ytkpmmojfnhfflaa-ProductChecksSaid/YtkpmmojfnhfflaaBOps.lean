/-
  The operations of package bitset on one word: single, below, With, Without, Union, Intersect, Minus, Within, Has: what each call answers; it changes nothing. Condition: words below 2^64.
-/
import Derived.Test.YtkpmmojfnhfflaaOwnI
import Derived.Test.YtkpmmojfnhfflaaPop
import Derived.Laws.Bits64b
import Derived.Laws.BitsAllLaws
import Derived.Laws.ShiftsVarLaws
import Derived.Lib.TrailingZeros
import Derived.IntWalk
namespace Go.Proofs.Ytkpmmojfnhfflaa
open Go.RowKit

theorem ret_w {a b : Nat} (h : a = b) : Ending.returned (.int .u64 (a : Int)) = .returned (.int .u64 (b : Int)) := by rw [h]
theorem ret_u {a b : Int} (h : a = b) : Ending.returned (.int .u64 a) = .returned (.int .u64 b) := by rw [h]

theorem two_cast (k : Nat) : (2 : Int) ^ k = ((2 ^ k : Nat) : Int) := by simp

/-! ### Plain words -/
/-- The word of the elements below a bound. -/
def lowN (i : Int) : Nat := 2 ^ (min (max i 0) 64).toNat - 1
/-- What is in the first and not in the second. -/
def diffB (s t : Nat) : Nat := s &&& (18446744073709551615 - t)
/-- Whether an int is in a set. -/
def hasB (s : Nat) (i : Int) : Bool := decide (0 ≤ i ∧ i < 64) && s.testBit i.toNat
theorem low_lt (i : Int) : W64 (lowN i) := by
  unfold lowN
  have h : 2 ^ (min (max i 0) 64).toNat ≤ 2 ^ 64 := Nat.pow_le_pow_right (by decide) (by omega)
  have := Nat.two_pow_pos (min (max i 0) 64).toNat
  unfold W64
  omega
theorem diff_le (s t : Nat) : diffB s t ≤ s := Nat.and_le_left
theorem low_bit (i : Int) (j : Nat) (hj : j < 64) : (lowN i).testBit j = decide ((j : Int) < i) := by
  unfold lowN
  rw [Nat.testBit_two_pow_sub_one, Bool.eq_iff_iff, decide_eq_true_iff, decide_eq_true_iff]
  omega
theorem diff_bit (s t : Nat) (ht : W64 t) (j : Nat) (hj : j < 64) : (diffB s t).testBit j = (s.testBit j && !t.testBit j) := by
  unfold diffB
  rw [Nat.testBit_and, show 18446744073709551615 - t = 2 ^ 64 - (t + 1) by omega, Nat.testBit_two_pow_sub_succ (by unfold W64 at ht; omega)]
  simp [hj]
theorem and_lt {s t : Nat} (hs : W64 s) : W64 (s &&& t) := Nat.lt_of_le_of_lt Nat.and_le_left hs
theorem diff_lt {s t : Nat} (hs : W64 s) : W64 (diffB s t) := Nat.lt_of_le_of_lt (diff_le s t) hs
theorem and_one (s : Nat) (i : Int) : decide (s &&& one i = 0) = !hasB s i := by
  unfold one hasB
  split
  · next h =>
    rw [nat_bit]
    have hb := bit_div s i.toNat
    have hp := Nat.two_pow_pos i.toNat
    cases ht : s.testBit i.toNat with
    | true =>
      rw [hb.2 ht, Nat.one_mul]
      simp [h]
    | false =>
      have h0 : s / 2 ^ i.toNat % 2 = 0 := by
        rw [ht] at hb
        simp at hb
        omega
      rw [h0]
      simp
  · next h => simp [h]

/-! ### The walks -/
theorem union_any (s t : Nat) (hs : W64 s) (ht : W64 t) (w : World) : Calls Try.prog 44 #[.int .u64 (s : Int), .int .u64 (t : Int)] w fun e w' => e = .returned (.int .u64 ((s ||| t : Nat) : Int)) ∧ w = w' := by
  have e := bits_or_u64_nat s t hs ht
  go_enter Try.func44, Try.ntmps44
  go_wp2_with fail
  go_ret
  exact ⟨rfl, rfl⟩
theorem minus_any (s t : Nat) (hs : W64 s) (ht : W64 t) (w : World) : Calls Try.prog 46 #[.int .u64 (s : Int), .int .u64 (t : Int)] w fun e w' => e = .returned (.int .u64 ((diffB s t : Nat) : Int)) ∧ w = w' := by
  have e := u64_andNot_nat s t hs ht
  change _ = ((diffB s t : Nat) : Int) at e
  go_enter Try.func46, Try.ntmps46
  go_wp2_with fail
  go_ret
  exact ⟨rfl, rfl⟩
theorem within_any (s t : Nat) (hs : W64 s) (ht : W64 t) (w : World) : Calls Try.prog 33 #[.int .u64 (s : Int), .int .u64 (t : Int)] w fun e w' => e = .returned (.bool (decide (diffB s t = 0))) ∧ w = w' := by
  have M := Lib.hid (fun W => minus_any s t hs ht W)
  generalize diffB s t = r at M ⊢
  go_enter Try.func33, Try.ntmps33
  go_wp2_with fail
  refine (M.out _).mono ?_
  rintro e w' ⟨rfl, rfl⟩
  go_wp2_with fail
  go_ret
  exact ⟨ret_bool (by rw [Bool.eq_iff_iff]; simp), rfl⟩
end Go.Proofs.Ytkpmmojfnhfflaa
