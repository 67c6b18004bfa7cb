/-
  The operations of package bitset on one word: single, below, With, Without, Union, Intersect, Minus, Within, Has: what each call answers; it changes nothing. Condition: words below 2^64.
-/
import Derived.Test.YtgjohpbhdgmifaaOwnI
import Derived.Test.YtgjohpbhdgmifaaPop
import Derived.Laws.Bits64b
import Derived.Laws.BitsAllLaws
import Derived.Laws.ShiftsVarLaws
import Derived.Lib.TrailingZeros
import Derived.IntWalk
namespace Go.Proofs.Ytgjohpbhdgmifaa
open Go.RowKit

theorem ret_w {a b : Nat} (h : a = b) : Ending.returned (.int .u64 (a : Int)) = .returned (.int .u64 (b : Int)) := by rw [h]
theorem ret_u {a b : Int} (h : a = b) : Ending.returned (.int .u64 a) = .returned (.int .u64 b) := by rw [h]

theorem two_cast (k : Nat) : (2 : Int) ^ k = ((2 ^ k : Nat) : Int) := by simp

/-! ### Plain words -/
/-- The word of the elements below a bound. -/
def lowN (i : Int) : Nat := 2 ^ (min (max i 0) 64).toNat - 1
/-- What is in the first and not in the second. -/
def diffB (s t : Nat) : Nat := s &&& (18446744073709551615 - t)
/-- Whether an int is in a set. -/
def hasB (s : Nat) (i : Int) : Bool := decide (0 ≤ i ∧ i < 64) && s.testBit i.toNat
theorem low_lt (i : Int) : W64 (lowN i) := by
  unfold lowN
  have h : 2 ^ (min (max i 0) 64).toNat ≤ 2 ^ 64 := Nat.pow_le_pow_right (by decide) (by omega)
  have := Nat.two_pow_pos (min (max i 0) 64).toNat
  unfold W64
  omega
theorem diff_le (s t : Nat) : diffB s t ≤ s := Nat.and_le_left
theorem low_bit (i : Int) (j : Nat) (hj : j < 64) : (lowN i).testBit j = decide ((j : Int) < i) := by
  unfold lowN
  rw [Nat.testBit_two_pow_sub_one, Bool.eq_iff_iff, decide_eq_true_iff, decide_eq_true_iff]
  omega
theorem diff_bit (s t : Nat) (ht : W64 t) (j : Nat) (hj : j < 64) : (diffB s t).testBit j = (s.testBit j && !t.testBit j) := by
  unfold diffB
  rw [Nat.testBit_and, show 18446744073709551615 - t = 2 ^ 64 - (t + 1) by omega, Nat.testBit_two_pow_sub_succ (by unfold W64 at ht; omega)]
  simp [hj]
theorem and_lt {s t : Nat} (hs : W64 s) : W64 (s &&& t) := Nat.lt_of_le_of_lt Nat.and_le_left hs
theorem diff_lt {s t : Nat} (hs : W64 s) : W64 (diffB s t) := Nat.lt_of_le_of_lt (diff_le s t) hs
theorem and_one (s : Nat) (i : Int) : decide (s &&& one i = 0) = !hasB s i := by
  unfold one hasB
  split
  · next h =>
    rw [nat_bit]
    have hb := bit_div s i.toNat
    have hp := Nat.two_pow_pos i.toNat
    cases ht : s.testBit i.toNat with
    | true =>
      rw [hb.2 ht, Nat.one_mul]
      simp [h]
    | false =>
      have h0 : s / 2 ^ i.toNat % 2 = 0 := by
        rw [ht] at hb
        simp at hb
        omega
      rw [h0]
      simp
  · next h => simp [h]

theorem single_any (i : Int) (w : World) : Calls Try.prog 27 #[.int .i64 i] w fun e w' => e = .returned (.int .u64 ((one i : Nat) : Int)) ∧ w = w' := by
  by_cases h1 : i < 0
  · have H := Lib.hid (show one i = 0 by unfold one; rw [if_neg (by omega)])
    go_enter Try.func27, Try.ntmps27
    go_wp2_with fail
    go_ret
    exact ⟨ret_u (by rw [H.out]; rfl), rfl⟩
  · have h1' : decide (i < 0) = false := decide_eq_false h1
    by_cases h2 : 64 ≤ i
    · have H := Lib.hid (show one i = 0 by unfold one; rw [if_neg (by omega)])
      clear h1
      go_enter Try.func27, Try.ntmps27
      go_wp2_with fail
      go_ret
      exact ⟨ret_u (by rw [H.out]; rfl), rfl⟩
    · have h2' : decide (64 ≤ i) = false := decide_eq_false h2
      have H := Lib.hid (show IntKind.u64.wrap (2 ^ i.toNat) = ((one i : Nat) : Int) by
        have hp : 2 ^ i.toNat < 18446744073709551616 := pow_lt64 (by omega)
        unfold one
        rw [if_pos (by omega), IntKind.wrap_u64, two_cast]
        exact Int.emod_eq_of_lt (Int.natCast_nonneg _) (by omega))
      go_enter Try.func27, Try.ntmps27
      go_wp2_with fail
      go_ret
      exact ⟨ret_u H.out, rfl⟩
theorem with_any (s : Nat) (hs : W64 s) (i : Int) (w : World) : Calls Try.prog 25 #[.int .u64 (s : Int), .int .i64 i] w fun e w' => e = .returned (.int .u64 ((s ||| one i : Nat) : Int)) ∧ w = w' := by
  have e := bits_or_u64_nat s (one i) hs (one_lt i)
  have M := Lib.hid (fun W => single_any i W)
  generalize s ||| one i = r at e ⊢
  generalize one i = x at e M
  go_enter Try.func25, Try.ntmps25
  go_wp2_with fail
  refine (M.out _).mono ?_
  rintro e w' ⟨rfl, rfl⟩
  go_wp2_with fail
  go_ret
  exact ⟨rfl, rfl⟩
end Go.Proofs.Ytgjohpbhdgmifaa
