/-
  The operations of package bitset on one word: single, below, With, Without, Union, Intersect, Minus, Within, Has: what each call answers; it changes nothing. Condition: words below 2^64.
-/
import Derived.Test.YtlpemdhjbpekaaaDoorOwnI
import Derived.Test.YtlpemdhjbpekaaaDoorPop
import Derived.Laws.Bits64b
import Derived.Laws.BitsAllLaws
import Derived.Laws.ShiftsVarLaws
import Derived.Lib.TrailingZeros
import Derived.IntWalk
namespace Go.Proofs.YtlpemdhjbpekaaaDoor
open Go.RowKit

theorem ret_w {a b : Nat} (h : a = b) : Ending.returned (.int .u64 (a : Int)) = .returned (.int .u64 (b : Int)) := by rw [h]
theorem ret_u {a b : Int} (h : a = b) : Ending.returned (.int .u64 a) = .returned (.int .u64 b) := by rw [h]

theorem two_cast (k : Nat) : (2 : Int) ^ k = ((2 ^ k : Nat) : Int) := by simp

/-! ### Plain words -/
/-- The word of the elements below a bound. -/
def lowN (i : Int) : Nat := 2 ^ (min (max i 0) 64).toNat - 1
/-- What is in the first and not in the second. -/
def diffB (s t : Nat) : Nat := s &&& (18446744073709551615 - t)
/-- Whether an int is in a set. -/
def hasB (s : Nat) (i : Int) : Bool := decide (0 ≤ i ∧ i < 64) && s.testBit i.toNat
theorem low_lt (i : Int) : W64 (lowN i) := by
  unfold lowN
  have h : 2 ^ (min (max i 0) 64).toNat ≤ 2 ^ 64 := Nat.pow_le_pow_right (by decide) (by omega)
  have := Nat.two_pow_pos (min (max i 0) 64).toNat
  unfold W64
  omega
theorem diff_le (s t : Nat) : diffB s t ≤ s := Nat.and_le_left
theorem low_bit (i : Int) (j : Nat) (hj : j < 64) : (lowN i).testBit j = decide ((j : Int) < i) := by
  unfold lowN
  rw [Nat.testBit_two_pow_sub_one, Bool.eq_iff_iff, decide_eq_true_iff, decide_eq_true_iff]
  omega
theorem diff_bit (s t : Nat) (ht : W64 t) (j : Nat) (hj : j < 64) : (diffB s t).testBit j = (s.testBit j && !t.testBit j) := by
  unfold diffB
  rw [Nat.testBit_and, show 18446744073709551615 - t = 2 ^ 64 - (t + 1) by omega, Nat.testBit_two_pow_sub_succ (by unfold W64 at ht; omega)]
  simp [hj]
theorem and_lt {s t : Nat} (hs : W64 s) : W64 (s &&& t) := Nat.lt_of_le_of_lt Nat.and_le_left hs
theorem diff_lt {s t : Nat} (hs : W64 s) : W64 (diffB s t) := Nat.lt_of_le_of_lt (diff_le s t) hs
theorem and_one (s : Nat) (i : Int) : decide (s &&& one i = 0) = !hasB s i := by
  unfold one hasB
  split
  · next h =>
    rw [nat_bit]
    have hb := bit_div s i.toNat
    have hp := Nat.two_pow_pos i.toNat
    cases ht : s.testBit i.toNat with
    | true =>
      rw [hb.2 ht, Nat.one_mul]
      simp [h]
    | false =>
      have h0 : s / 2 ^ i.toNat % 2 = 0 := by
        rw [ht] at hb
        simp at hb
        omega
      rw [h0]
      simp
  · next h => simp [h]

theorem intersect_any (s t : Nat) (hs : W64 s) (ht : W64 t) (w : World) : Calls Tryd.prog 33 #[.int .u64 (s : Int), .int .u64 (t : Int)] w fun e w' => e = .returned (.int .u64 ((s &&& t : Nat) : Int)) ∧ w = w' := by
  have e := bits_and_u64_nat s t hs ht
  go_enter Tryd.func33, Tryd.ntmps33
  go_wp2_with fail
  go_ret
  exact ⟨rfl, rfl⟩
theorem minus_any (s t : Nat) (hs : W64 s) (ht : W64 t) (w : World) : Calls Tryd.prog 37 #[.int .u64 (s : Int), .int .u64 (t : Int)] w fun e w' => e = .returned (.int .u64 ((diffB s t : Nat) : Int)) ∧ w = w' := by
  have e := u64_andNot_nat s t hs ht
  change _ = ((diffB s t : Nat) : Int) at e
  go_enter Tryd.func37, Tryd.ntmps37
  go_wp2_with fail
  go_ret
  exact ⟨rfl, rfl⟩
theorem within_any (s t : Nat) (hs : W64 s) (ht : W64 t) (w : World) : Calls Tryd.prog 26 #[.int .u64 (s : Int), .int .u64 (t : Int)] w fun e w' => e = .returned (.bool (decide (diffB s t = 0))) ∧ w = w' := by
  have M := Lib.hid (fun W => minus_any s t hs ht W)
  generalize diffB s t = r at M ⊢
  go_enter Tryd.func26, Tryd.ntmps26
  go_wp2_with fail
  refine (M.out _).mono ?_
  rintro e w' ⟨rfl, rfl⟩
  go_wp2_with fail
  go_ret
  exact ⟨ret_bool (by rw [Bool.eq_iff_iff]; simp), rfl⟩
theorem single_any (i : Int) (w : World) : Calls Tryd.prog 40 #[.int .i64 i] w fun e w' => e = .returned (.int .u64 ((one i : Nat) : Int)) ∧ w = w' := by
  by_cases h1 : i < 0
  · have H := Lib.hid (show one i = 0 by unfold one; rw [if_neg (by omega)])
    go_enter Tryd.func40, Tryd.ntmps40
    go_wp2_with fail
    go_ret
    exact ⟨ret_u (by rw [H.out]; rfl), rfl⟩
  · have h1' : decide (i < 0) = false := decide_eq_false h1
    by_cases h2 : 64 ≤ i
    · have H := Lib.hid (show one i = 0 by unfold one; rw [if_neg (by omega)])
      clear h1
      go_enter Tryd.func40, Tryd.ntmps40
      go_wp2_with fail
      go_ret
      exact ⟨ret_u (by rw [H.out]; rfl), rfl⟩
    · have h2' : decide (64 ≤ i) = false := decide_eq_false h2
      have H := Lib.hid (show IntKind.u64.wrap (2 ^ i.toNat) = ((one i : Nat) : Int) by
        have hp : 2 ^ i.toNat < 18446744073709551616 := pow_lt64 (by omega)
        unfold one
        rw [if_pos (by omega), IntKind.wrap_u64, two_cast]
        exact Int.emod_eq_of_lt (Int.natCast_nonneg _) (by omega))
      go_enter Tryd.func40, Tryd.ntmps40
      go_wp2_with fail
      go_ret
      exact ⟨ret_u H.out, rfl⟩
theorem below_any (i : Int) (w : World) : Calls Tryd.prog 38 #[.int .i64 i] w fun e w' => e = .returned (.int .u64 ((lowN i : Nat) : Int)) ∧ w = w' := by
  by_cases h1 : i < 0
  · have H := Lib.hid (show lowN i = 0 by unfold lowN; rw [show (min (max i 0) 64).toNat = 0 by omega])
    go_enter Tryd.func38, Tryd.ntmps38
    go_wp2_with fail
    go_ret
    exact ⟨ret_u (by rw [H.out]; rfl), rfl⟩
  · have h1' : decide (i < 0) = false := decide_eq_false h1
    by_cases h2 : 64 ≤ i
    · have H := Lib.hid (show lowN i = 18446744073709551615 by unfold lowN; rw [show (min (max i 0) 64).toNat = 64 by omega])
      go_enter Tryd.func38, Tryd.ntmps38
      go_wp2_with fail
      go_ret
      exact ⟨ret_u (by rw [H.out]; rfl), rfl⟩
    · have h2' : decide (64 ≤ i) = false := decide_eq_false h2
      have H := Lib.hid (show IntKind.u64.wrap (IntKind.u64.wrap (2 ^ i.toNat) - 1) = ((lowN i : Nat) : Int) by
        have hp : 2 ^ i.toNat < 18446744073709551616 := pow_lt64 (by omega)
        have h0 := Nat.two_pow_pos i.toNat
        unfold lowN
        rw [show (min (max i 0) 64).toNat = i.toNat by omega, IntKind.wrap_u64, IntKind.wrap_u64, two_cast]
        generalize 2 ^ i.toNat = p at hp h0
        omega)
      go_enter Tryd.func38, Tryd.ntmps38
      go_wp2_with fail
      go_ret
      exact ⟨ret_u H.out, rfl⟩
theorem has_any (s : Nat) (hs : W64 s) (i : Int) (w : World) : Calls Tryd.prog 31 #[.int .u64 (s : Int), .int .i64 i] w fun e w' => e = .returned (.bool (hasB s i)) ∧ w = w' := by
  have e := bits_and_u64_nat s (one i) hs (one_lt i)
  have M := Lib.hid (fun W => single_any i W)
  have R := Lib.hid (and_one s i)
  generalize s &&& one i = r at e R
  generalize one i = x at e M
  go_enter Tryd.func31, Tryd.ntmps31
  go_wp2_with fail
  refine (M.out _).mono ?_
  rintro e w' ⟨rfl, rfl⟩
  go_wp2_with fail
  go_ret
  exact ⟨ret_bool (by have := R.out; rw [Bool.eq_iff_iff] at this ⊢; simp at this ⊢; rw [this]; simp), rfl⟩
theorem with_any (s : Nat) (hs : W64 s) (i : Int) (w : World) : Calls Tryd.prog 32 #[.int .u64 (s : Int), .int .i64 i] w fun e w' => e = .returned (.int .u64 ((s ||| one i : Nat) : Int)) ∧ w = w' := by
  have e := bits_or_u64_nat s (one i) hs (one_lt i)
  have M := Lib.hid (fun W => single_any i W)
  generalize s ||| one i = r at e ⊢
  generalize one i = x at e M
  go_enter Tryd.func32, Tryd.ntmps32
  go_wp2_with fail
  refine (M.out _).mono ?_
  rintro e w' ⟨rfl, rfl⟩
  go_wp2_with fail
  go_ret
  exact ⟨rfl, rfl⟩
theorem range_any (i j : Int) (w : World) : Calls Tryd.prog 27 #[.int .i64 i, .int .i64 j] w fun e w' => e = .returned (.int .u64 ((diffB (lowN j) (lowN i) : Nat) : Int)) ∧ w = w' := by
  have A := Lib.hid (fun W => below_any j W)
  have B := Lib.hid (fun W => below_any i W)
  have M := Lib.hid (fun W => minus_any (lowN j) (lowN i) (low_lt j) (low_lt i) W)
  generalize diffB (lowN j) (lowN i) = r at M ⊢
  generalize lowN j = x at A M
  generalize lowN i = y at B M
  go_enter Tryd.func27, Tryd.ntmps27
  go_wp2_with fail
  refine (A.out _).mono ?_
  rintro e w' ⟨rfl, rfl⟩
  go_wp2_with fail
  refine (B.out _).mono ?_
  rintro e w' ⟨rfl, rfl⟩
  go_wp2_with fail
  refine (M.out _).mono ?_
  rintro e w' ⟨rfl, rfl⟩
  go_wp2_with fail
  go_ret
  exact ⟨rfl, rfl⟩
end Go.Proofs.YtlpemdhjbpekaaaDoor
