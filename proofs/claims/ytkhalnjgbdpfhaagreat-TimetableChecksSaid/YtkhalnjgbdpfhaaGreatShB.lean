/-
  The operations of package bitset on one word: single, below, With, Without, Union, Intersect, Minus, Within, Has: what each call answers; it changes nothing. Condition: words below 2^64. The number of elements and the least element of a word: what Len and Min (and the two functions of math/bits that they call) answer; they change nothing. Condition: words below 2^64; the table of math/bits as its initialiser lays it. The reference of the sets of small ints: Power, Has, With, Without, Of, Range, Union, Intersect, Minus, List, Min: what each call answers; Of, of package bitset. Condition: words below 2^64, lists of fewer than 2^40 ints.
-/
import Derived.Test.YtkhalnjgbdpfhaaGreatShA
import Derived.Test.YtkhalnjgbdpfhaaGreatShP
import Derived.Laws.Bits64b
import Derived.Laws.BitsAllLaws
import Derived.Laws.ShiftsVarLaws
import Derived.Lib.TrailingZeros
import Derived.IntWalk
namespace Go.Proofs.YtkhalnjgbdpfhaaGreat
open Go.RowKit

theorem ret_w {a b : Nat} (h : a = b) : Ending.returned (.int .u64 (a : Int)) = .returned (.int .u64 (b : Int)) := by rw [h]
theorem ret_u {a b : Int} (h : a = b) : Ending.returned (.int .u64 a) = .returned (.int .u64 b) := by rw [h]

theorem two_cast (k : Nat) : (2 : Int) ^ k = ((2 ^ k : Nat) : Int) := by simp

/-! ### Plain words -/
/-- The word of the elements below a bound. -/
def lowN (i : Int) : Nat := 2 ^ (min (max i 0) 64).toNat - 1
/-- What is in the first and not in the second. -/
def diffB (s t : Nat) : Nat := s &&& (18446744073709551615 - t)
/-- Whether an int is in a set. -/
def hasB (s : Nat) (i : Int) : Bool := decide (0 ≤ i ∧ i < 64) && s.testBit i.toNat
theorem low_lt (i : Int) : W64 (lowN i) := by
  unfold lowN
  have h : 2 ^ (min (max i 0) 64).toNat ≤ 2 ^ 64 := Nat.pow_le_pow_right (by decide) (by omega)
  have := Nat.two_pow_pos (min (max i 0) 64).toNat
  unfold W64
  omega
theorem diff_le (s t : Nat) : diffB s t ≤ s := Nat.and_le_left
theorem low_bit (i : Int) (j : Nat) (hj : j < 64) : (lowN i).testBit j = decide ((j : Int) < i) := by
  unfold lowN
  rw [Nat.testBit_two_pow_sub_one, Bool.eq_iff_iff, decide_eq_true_iff, decide_eq_true_iff]
  omega
theorem diff_bit (s t : Nat) (ht : W64 t) (j : Nat) (hj : j < 64) : (diffB s t).testBit j = (s.testBit j && !t.testBit j) := by
  unfold diffB
  rw [Nat.testBit_and, show 18446744073709551615 - t = 2 ^ 64 - (t + 1) by omega, Nat.testBit_two_pow_sub_succ (by unfold W64 at ht; omega)]
  simp [hj]
theorem and_lt {s t : Nat} (hs : W64 s) : W64 (s &&& t) := Nat.lt_of_le_of_lt Nat.and_le_left hs
theorem diff_lt {s t : Nat} (hs : W64 s) : W64 (diffB s t) := Nat.lt_of_le_of_lt (diff_le s t) hs
theorem and_one (s : Nat) (i : Int) : decide (s &&& one i = 0) = !hasB s i := by
  unfold one hasB
  split
  · next h =>
    rw [nat_bit]
    have hb := bit_div s i.toNat
    have hp := Nat.two_pow_pos i.toNat
    cases ht : s.testBit i.toNat with
    | true =>
      rw [hb.2 ht, Nat.one_mul]
      simp [h]
    | false =>
      have h0 : s / 2 ^ i.toNat % 2 = 0 := by
        rw [ht] at hb
        simp at hb
        omega
      rw [h0]
      simp
  · next h => simp [h]

theorem single_any (i : Int) (w : World) : Calls Tryz.prog 138 #[.int .i64 i] w fun e w' => e = .returned (.int .u64 ((one i : Nat) : Int)) ∧ w = w' := by
  by_cases h1 : i < 0
  · have H := Lib.hid (show one i = 0 by unfold one; rw [if_neg (by omega)])
    go_enter Tryz.func138, Tryz.ntmps138
    go_wp2_with fail
    go_ret
    exact ⟨ret_u (by rw [H.out]; rfl), rfl⟩
  · have h1' : decide (i < 0) = false := decide_eq_false h1
    by_cases h2 : 64 ≤ i
    · have H := Lib.hid (show one i = 0 by unfold one; rw [if_neg (by omega)])
      clear h1
      go_enter Tryz.func138, Tryz.ntmps138
      go_wp2_with fail
      go_ret
      exact ⟨ret_u (by rw [H.out]; rfl), rfl⟩
    · have h2' : decide (64 ≤ i) = false := decide_eq_false h2
      have H := Lib.hid (show IntKind.u64.wrap (2 ^ i.toNat) = ((one i : Nat) : Int) by
        have hp : 2 ^ i.toNat < 18446744073709551616 := pow_lt64 (by omega)
        unfold one
        rw [if_pos (by omega), IntKind.wrap_u64, two_cast]
        exact Int.emod_eq_of_lt (Int.natCast_nonneg _) (by omega))
      go_enter Tryz.func138, Tryz.ntmps138
      go_wp2_with fail
      go_ret
      exact ⟨ret_u H.out, rfl⟩
theorem has_any (s : Nat) (hs : W64 s) (i : Int) (w : World) : Calls Tryz.prog 107 #[.int .u64 (s : Int), .int .i64 i] w fun e w' => e = .returned (.bool (hasB s i)) ∧ w = w' := by
  have e := bits_and_u64_nat s (one i) hs (one_lt i)
  have M := Lib.hid (fun W => single_any i W)
  have R := Lib.hid (and_one s i)
  generalize s &&& one i = r at e R
  generalize one i = x at e M
  go_enter Tryz.func107, Tryz.ntmps107
  go_wp2_with fail
  refine (M.out _).mono ?_
  rintro e w' ⟨rfl, rfl⟩
  go_wp2_with fail
  go_ret
  exact ⟨ret_bool (by have := R.out; rw [Bool.eq_iff_iff] at this ⊢; simp at this ⊢; rw [this]; simp), rfl⟩
end Go.Proofs.YtkhalnjgbdpfhaaGreat
namespace Go.Proofs.YtkhalnjgbdpfhaaGreat
open Go.RowKit

/-- The table of math/bits is as its initialiser lays it. -/
def tab64 : List Int := Lib.deBruijn64tab.map fun n : Nat => (n : Int)
def Good (w : World) : Prop := Lib.TabIs Tryz.prog w "math/bits.deBruijn64tab" .u8 tab64
theorem var_size {w : World} {n : String} {g : Nat} {cs : Array Value} (hg : Tryz.prog.globalNamed n = some g) (h : w.var? Tryz.prog n = some cs) : g < w.heap.size := by
  unfold World.var? at h
  simp only [hg, Option.bind_some] at h
  by_cases hs : g < w.heap.size
  · exact hs
  · rw [Array.getElem?_eq_none (by omega)] at h
    cases h
theorem and127 (v : Int) (h0 : 0 ≤ v) (h1 : v < 9223372036854775808) : bits BinOp.and IntKind.i64 v 127 = v % 128 := by
  obtain ⟨V, rfl⟩ := Int.eq_ofNat_of_zero_le h0
  have e1 : (BitVec.ofInt 64 (V : Int)).toNat = V := by
    rw [BitVec.ofInt_natCast, BitVec.toNat_ofNat]
    exact Nat.mod_eq_of_lt (by omega)
  have e2 : (BitVec.ofInt 64 (127 : Int)).toNat = 127 := rfl
  show IntKind.i64.wrap ((BitVec.ofInt 64 (V : Int) &&& BitVec.ofInt 64 (127 : Int)).toNat : Int) = _
  rw [BitVec.toNat_and, e1, e2, show (127 : Nat) = 2 ^ 7 - 1 by rfl, Nat.and_two_pow_sub_one_eq_mod]
  rw [IntWalk.i64_in _ (by omega)]
  omega
theorem wrap_in (n : Nat) (h : W64 n) : IntKind.u64.wrap (n : Int) = (n : Int) := by
  rw [IntKind.wrap_u64]
  exact Int.emod_eq_of_lt (Int.natCast_nonneg _) (by unfold W64 at h; omega)
/-! ### The least element -/
theorem neg_wrap (x : Nat) (h0 : x ≠ 0) (hx : W64 x) : IntKind.u64.wrap (-(x : Int)) = ((18446744073709551616 - x : Nat) : Int) := by
  rw [IntKind.wrap_u64]
  unfold W64 at hx
  omega
/-- The least element, 0 if there is none. -/
def minB (s : Nat) : Nat := if s = 0 then 0 else Lib.ctz 64 s
/-- The least element of a set is its least bit. -/
theorem min_low {s : Nat} (hs : W64 s) (h0 : s ≠ 0) : minB s < 64 ∧ s.testBit (minB s) = true ∧ ∀ j, j < minB s → s.testBit j = false := by
  unfold minB
  rw [if_neg h0]
  obtain ⟨m, hm, hk⟩ := Lib.ctzFrom_spec 64 s (by omega) hs
  have e : Lib.ctz 64 s = Lib.ctzFrom 64 s := by simp [Lib.ctz, h0]
  rw [e]
  generalize Lib.ctzFrom 64 s = k at hm hk
  have hp := Nat.two_pow_pos k
  refine ⟨hk, ?_, fun j hj => ?_⟩
  · rw [hm, Nat.testBit_two_pow_mul]
    simp [Nat.testBit_zero]
  · rw [hm, Nat.testBit_two_pow_mul]
    simp
    omega
end Go.Proofs.YtkhalnjgbdpfhaaGreat
namespace Go.Proofs.YtkhalnjgbdpfhaaGreat
open Go.RowKit

/-! ### Plain words, an element at a time -/
theorem mod_bit (t k j : Nat) : (t % 2 ^ k).testBit j = (decide (j < k) && t.testBit j) := Nat.testBit_mod_two_pow t k j
theorem one_at {k : Nat} (h : k < 64) : one (k : Int) = 2 ^ k := by
  unfold one
  rw [if_pos (by omega)]
  rfl
theorem mod_yes {t k : Nat} (h : t.testBit k = true) : t % 2 ^ (k + 1) = t % 2 ^ k ||| 2 ^ k := by
  apply Nat.eq_of_testBit_eq
  intro j
  rw [mod_bit, Nat.testBit_or, mod_bit, Nat.testBit_two_pow]
  rcases Nat.lt_trichotomy j k with hj | rfl | hj
  · simp [hj, show j < k + 1 by omega, show ¬ k = j by omega]
  · simp [h]
  · simp [show ¬ j < k + 1 by omega, show ¬ j < k by omega, show ¬ k = j by omega]
theorem mod_no {t k : Nat} (h : t.testBit k = false) : t % 2 ^ (k + 1) = t % 2 ^ k := by
  apply Nat.eq_of_testBit_eq
  intro j
  rw [mod_bit, mod_bit]
  rcases Nat.lt_trichotomy j k with hj | rfl | hj
  · simp [hj, show j < k + 1 by omega]
  · simp [h]
  · simp [show ¬ j < k + 1 by omega, show ¬ j < k by omega]
theorem mod_all {t : Nat} (h : W64 t) : t % 2 ^ 64 = t := Nat.mod_eq_of_lt h
theorem has_nat (s : Nat) {k : Nat} (h : k < 64) : hasB s (k : Int) = s.testBit k := by
  unfold hasB
  rw [decide_eq_true (by omega), Bool.true_and]
  rfl
theorem mod_w (t k : Nat) (h : W64 t) : W64 (t % 2 ^ k) := Nat.lt_of_le_of_lt (Nat.mod_le _ _) h
theorem diff_or {s t k : Nat} (hs : W64 s) (ht : W64 t) (h : t.testBit k = true) (hk : k < 64) : diffB (diffB s (t % 2 ^ k)) (one (k : Int)) = diffB s (t % 2 ^ (k + 1)) := by
  refine same_bits (diff_lt (diff_lt hs)) (diff_lt hs) fun j hj => ?_
  rw [diff_bit _ _ (one_lt _) j hj, diff_bit _ _ (mod_w _ _ ht) j hj, diff_bit _ _ (mod_w _ _ ht) j hj, one_at hk, mod_yes h, Nat.testBit_or, Bool.not_or, Bool.and_assoc]
theorem inter_diff {s t : Nat} (hs : W64 s) (ht : W64 t) : diffB s (diffB s t) = s &&& t := by
  refine same_bits (diff_lt hs) (and_lt hs) fun j hj => ?_
  rw [diff_bit _ _ (diff_lt hs) j hj, diff_bit _ _ ht j hj, Nat.testBit_and]
  cases s.testBit j <;> simp
/-- The elements below a bound, in ascending order. -/
def elemsTo (s k : Nat) : List Nat := (List.range k).filter fun i => s.testBit i
def intN (l : List Nat) : List Int := l.map fun i : Nat => (i : Int)
theorem intN_len (l : List Nat) : (intN l).length = l.length := List.length_map _
theorem elems_to (s : Nat) : elemsTo s 64 = elems s := rfl
theorem to_yes {s k : Nat} (h : s.testBit k = true) : intN (elemsTo s (k + 1)) = intN (elemsTo s k) ++ [(k : Int)] := by
  unfold elemsTo intN
  rw [List.range_succ, List.filter_append, List.map_append]
  simp [h]
theorem to_no {s k : Nat} (h : s.testBit k = false) : elemsTo s (k + 1) = elemsTo s k := by
  unfold elemsTo
  rw [List.range_succ, List.filter_append]
  simp [h]
theorem to_len (s k : Nat) : (elemsTo s k).length ≤ k := by
  have := List.length_filter_le (fun i => s.testBit i) (List.range k)
  rw [List.length_range] at this
  exact this
theorem set_snoc (l : List Int) (x : Int) : setOfL (l ++ [x]) = setOfL l ||| one x := by
  unfold setOfL
  rw [List.foldl_append]
  show (if 0 ≤ x ∧ x < 64 then putB _ x.toNat else _) = _
  unfold one putB
  split
  · next h => rw [if_pos (by omega)]
  · next h => rw [Nat.or_zero]
theorem set_w (l : List Int) : W64 (setOfL l) := set_lt l

/-! ### Of, Range, Union, Minus, Intersect -/
theorem all_at {l : List Int} {k : Nat} {x : Int} (h : l[k]? = some x) : l.take (k + 1) = l.take k ++ [x] := take_at l k x h
/-- The range, up to a bound. -/
theorem rng_bit (i j : Int) (k : Nat) (hk : k < 64) : (diffB (lowN j) (lowN i)).testBit k = (decide (i ≤ (k : Int)) && decide ((k : Int) < j)) := by
  rw [diff_bit _ _ (low_lt i) k hk, low_bit j k hk, low_bit i k hk]
  by_cases h1 : (k : Int) < i
  · simp [h1, show ¬ i ≤ (k : Int) by omega]
  · simp [h1, show i ≤ (k : Int) by omega]
theorem or_step {s t k : Nat} (h : t.testBit k = true) (hk : k < 64) : (s ||| t % 2 ^ k) ||| one (k : Int) = s ||| t % 2 ^ (k + 1) := by
  rw [one_at hk, mod_yes h, Nat.or_assoc]
theorem diff_zero (s : Nat) (hs : W64 s) : diffB s 0 = s := by
  refine same_bits (diff_lt hs) hs fun j hj => ?_
  rw [diff_bit _ _ (by decide) j hj]
  simp
end Go.Proofs.YtkhalnjgbdpfhaaGreat
