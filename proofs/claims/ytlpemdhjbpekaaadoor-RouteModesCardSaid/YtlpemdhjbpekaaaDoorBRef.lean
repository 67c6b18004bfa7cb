/-
  The reference of the sets of small ints: Power, Has, With, Without, Of, Range, Union, Intersect, Minus, List, Min: what each call answers; Of, of package bitset. Condition: words below 2^64, lists of fewer than 2^40 ints.
-/
import Derived.Test.YtlpemdhjbpekaaaDoorBCnt
namespace Go.Proofs.YtlpemdhjbpekaaaDoor
open Go.RowKit

/-! ### Plain words, an element at a time -/
theorem mod_bit (t k j : Nat) : (t % 2 ^ k).testBit j = (decide (j < k) && t.testBit j) := Nat.testBit_mod_two_pow t k j
theorem one_at {k : Nat} (h : k < 64) : one (k : Int) = 2 ^ k := by
  unfold one
  rw [if_pos (by omega)]
  rfl
theorem mod_yes {t k : Nat} (h : t.testBit k = true) : t % 2 ^ (k + 1) = t % 2 ^ k ||| 2 ^ k := by
  apply Nat.eq_of_testBit_eq
  intro j
  rw [mod_bit, Nat.testBit_or, mod_bit, Nat.testBit_two_pow]
  rcases Nat.lt_trichotomy j k with hj | rfl | hj
  · simp [hj, show j < k + 1 by omega, show ¬ k = j by omega]
  · simp [h]
  · simp [show ¬ j < k + 1 by omega, show ¬ j < k by omega, show ¬ k = j by omega]
theorem mod_no {t k : Nat} (h : t.testBit k = false) : t % 2 ^ (k + 1) = t % 2 ^ k := by
  apply Nat.eq_of_testBit_eq
  intro j
  rw [mod_bit, mod_bit]
  rcases Nat.lt_trichotomy j k with hj | rfl | hj
  · simp [hj, show j < k + 1 by omega]
  · simp [h]
  · simp [show ¬ j < k + 1 by omega, show ¬ j < k by omega]
theorem mod_all {t : Nat} (h : W64 t) : t % 2 ^ 64 = t := Nat.mod_eq_of_lt h
theorem has_nat (s : Nat) {k : Nat} (h : k < 64) : hasB s (k : Int) = s.testBit k := by
  unfold hasB
  rw [decide_eq_true (by omega), Bool.true_and]
  rfl
theorem mod_w (t k : Nat) (h : W64 t) : W64 (t % 2 ^ k) := Nat.lt_of_le_of_lt (Nat.mod_le _ _) h
theorem diff_or {s t k : Nat} (hs : W64 s) (ht : W64 t) (h : t.testBit k = true) (hk : k < 64) : diffB (diffB s (t % 2 ^ k)) (one (k : Int)) = diffB s (t % 2 ^ (k + 1)) := by
  refine same_bits (diff_lt (diff_lt hs)) (diff_lt hs) fun j hj => ?_
  rw [diff_bit _ _ (one_lt _) j hj, diff_bit _ _ (mod_w _ _ ht) j hj, diff_bit _ _ (mod_w _ _ ht) j hj, one_at hk, mod_yes h, Nat.testBit_or, Bool.not_or, Bool.and_assoc]
theorem inter_diff {s t : Nat} (hs : W64 s) (ht : W64 t) : diffB s (diffB s t) = s &&& t := by
  refine same_bits (diff_lt hs) (and_lt hs) fun j hj => ?_
  rw [diff_bit _ _ (diff_lt hs) j hj, diff_bit _ _ ht j hj, Nat.testBit_and]
  cases s.testBit j <;> simp
/-- The elements below a bound, in ascending order. -/
def elemsTo (s k : Nat) : List Nat := (List.range k).filter fun i => s.testBit i
def intN (l : List Nat) : List Int := l.map fun i : Nat => (i : Int)
theorem intN_len (l : List Nat) : (intN l).length = l.length := List.length_map _
theorem elems_to (s : Nat) : elemsTo s 64 = elems s := rfl
theorem to_yes {s k : Nat} (h : s.testBit k = true) : intN (elemsTo s (k + 1)) = intN (elemsTo s k) ++ [(k : Int)] := by
  unfold elemsTo intN
  rw [List.range_succ, List.filter_append, List.map_append]
  simp [h]
theorem to_no {s k : Nat} (h : s.testBit k = false) : elemsTo s (k + 1) = elemsTo s k := by
  unfold elemsTo
  rw [List.range_succ, List.filter_append]
  simp [h]
theorem to_len (s k : Nat) : (elemsTo s k).length ≤ k := by
  have := List.length_filter_le (fun i => s.testBit i) (List.range k)
  rw [List.length_range] at this
  exact this
theorem set_snoc (l : List Int) (x : Int) : setOfL (l ++ [x]) = setOfL l ||| one x := by
  unfold setOfL
  rw [List.foldl_append]
  show (if 0 ≤ x ∧ x < 64 then putB _ x.toNat else _) = _
  unfold one putB
  split
  · next h => rw [if_pos (by omega)]
  · next h => rw [Nat.or_zero]
theorem set_w (l : List Int) : W64 (setOfL l) := set_lt l

/-! ### Of, Range, Union, Minus, Intersect -/
theorem all_at {l : List Int} {k : Nat} {x : Int} (h : l[k]? = some x) : l.take (k + 1) = l.take k ++ [x] := take_at l k x h
/-- The range, up to a bound. -/
theorem rng_bit (i j : Int) (k : Nat) (hk : k < 64) : (diffB (lowN j) (lowN i)).testBit k = (decide (i ≤ (k : Int)) && decide ((k : Int) < j)) := by
  rw [diff_bit _ _ (low_lt i) k hk, low_bit j k hk, low_bit i k hk]
  by_cases h1 : (k : Int) < i
  · simp [h1, show ¬ i ≤ (k : Int) by omega]
  · simp [h1, show i ≤ (k : Int) by omega]
theorem or_step {s t k : Nat} (h : t.testBit k = true) (hk : k < 64) : (s ||| t % 2 ^ k) ||| one (k : Int) = s ||| t % 2 ^ (k + 1) := by
  rw [one_at hk, mod_yes h, Nat.or_assoc]
theorem diff_zero (s : Nat) (hs : W64 s) : diffB s 0 = s := by
  refine same_bits (diff_lt hs) hs fun j hj => ?_
  rw [diff_bit _ _ (by decide) j hj]
  simp
end Go.Proofs.YtlpemdhjbpekaaaDoor
