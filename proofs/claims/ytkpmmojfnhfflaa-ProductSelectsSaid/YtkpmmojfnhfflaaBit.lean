/-
  Plain facts about sets of the integers from 0 to 63 as natural numbers: bits added and taken away, sets made of lists, their elements in order, their number: no program. Condition: none beyond each theorem's own hypotheses.
-/
import Derived.Test.YtkpmmojfnhfflaaDigits
namespace Go.Proofs.Ytkpmmojfnhfflaa
open Go

/-! ### One bit -/
theorem bit_div (s i : Nat) : (s / 2 ^ i % 2 = 1) ↔ s.testBit i = true := by
  rw [Nat.testBit_eq_decide_div_mod_eq, decide_eq_true_iff]
/-- The set with an element. -/
def putB (s i : Nat) : Nat := if i < 64 then s ||| 2 ^ i else s
/-- The set without an element. -/
def delB (s i : Nat) : Nat := if s.testBit i then s - 2 ^ i else s
theorem put_bit (s i j : Nat) : (putB s i).testBit j = (s.testBit j || (decide (i = j) && decide (i < 64))) := by
  unfold putB
  split
  · next h => rw [Nat.testBit_or, Nat.testBit_two_pow]; simp [h]
  · next h => simp [h]
theorem bit_add {s i : Nat} (h : s.testBit i = false) : s + 2 ^ i = s ||| 2 ^ i := by
  apply Nat.eq_of_testBit_eq
  intro j
  rw [Nat.testBit_or, Nat.testBit_two_pow]
  rw [Nat.add_comm]
  rcases Nat.lt_trichotomy j i with hj | hj | hj
  · rw [Nat.testBit_two_pow_add_gt hj]
    simp; omega
  · subst hj
    rw [Nat.testBit_two_pow_add_eq, h]
    simp
  · -- above the bit nothing is carried
    have hs : s = s % 2 ^ (i + 1) + 2 ^ (i + 1) * (s / 2 ^ (i + 1)) := (Nat.mod_add_div _ _).symm
    have hlow : s % 2 ^ (i + 1) < 2 ^ i := by
      have hdiv : s / 2 ^ i % 2 = 0 := by
        have := bit_div s i
        rw [h] at this
        simp at this
        omega
      have h1 : s % 2 ^ (i + 1) = s % 2 ^ i + 2 ^ i * (s / 2 ^ i % 2) := by rw [Nat.pow_succ, Nat.mod_mul]
      rw [h1, hdiv, Nat.mul_zero, Nat.add_zero]
      exact Nat.mod_lt _ (Nat.two_pow_pos i)
    have hsum : 2 ^ i + s = 2 ^ (i + 1) * (s / 2 ^ (i + 1)) + (2 ^ i + s % 2 ^ (i + 1)) := by omega
    rw [hsum, Nat.testBit_two_pow_mul_add _ (Nat.lt_of_lt_of_le (Nat.add_lt_add_left hlow _) (by rw [Nat.pow_succ]; omega))]
    rw [if_neg (by omega)]
    conv => rhs; rw [show s = 2 ^ (i + 1) * (s / 2 ^ (i + 1)) + s % 2 ^ (i + 1) by omega]
    rw [Nat.testBit_two_pow_mul_add _ (Nat.mod_lt _ (Nat.two_pow_pos _)), if_neg (by omega)]
    simp; omega
theorem put_lt {s i : Nat} (h : s < 2 ^ 64) : putB s i < 2 ^ 64 := by
  unfold putB
  split
  · next hi => exact Nat.or_lt_two_pow h (Nat.pow_lt_pow_right (by decide) hi)
  · exact h
theorem put_add {s i : Nat} (hi : i < 64) (h : s.testBit i = false) : s + 2 ^ i = putB s i := by
  unfold putB
  rw [if_pos hi, bit_add h]
theorem put_same {s i : Nat} (h : s.testBit i = true) : putB s i = s := by
  apply Nat.eq_of_testBit_eq
  intro j
  rw [put_bit]
  by_cases hij : i = j
  · subst hij; simp [h]
  · simp [hij]
theorem bit_clear {s i : Nat} (h : s.testBit i = true) : ∃ r, s = r + 2 ^ i ∧ r.testBit i = false ∧ ∀ j, j ≠ i → r.testBit j = s.testBit j := by
  refine ⟨s ^^^ 2 ^ i, ?_, ?_, fun j hj => ?_⟩
  · have h0 : (s ^^^ 2 ^ i).testBit i = false := by rw [Nat.testBit_xor, Nat.testBit_two_pow, h]; simp
    rw [bit_add h0]
    apply Nat.eq_of_testBit_eq
    intro j
    rw [Nat.testBit_or, Nat.testBit_xor, Nat.testBit_two_pow]
    by_cases hij : i = j
    · subst hij; simp [h]
    · simp [hij]
  · rw [Nat.testBit_xor, Nat.testBit_two_pow, h]; simp
  · rw [Nat.testBit_xor, Nat.testBit_two_pow]
    simp [Ne.symm hj]
theorem del_bit (s i j : Nat) : (delB s i).testBit j = (s.testBit j && !(decide (i = j))) := by
  unfold delB
  split
  · next h =>
    obtain ⟨r, hr, h1, h2⟩ := bit_clear h
    rw [show s - 2 ^ i = r by omega]
    by_cases hij : i = j
    · subst hij; simp [h1]
    · rw [h2 j (Ne.symm hij)]; simp [hij]
  · next h =>
    by_cases hij : i = j
    · subst hij; simp [h]
    · simp [hij]
theorem del_le (s i : Nat) : delB s i ≤ s := by
  unfold delB
  split
  · exact Nat.sub_le _ _
  · exact Nat.le_refl _
theorem bit_small {s : Nat} (h : s < 2 ^ 64) {j : Nat} (hj : 64 ≤ j) : s.testBit j = false := Nat.testBit_lt_two_pow (Nat.lt_of_lt_of_le h (Nat.pow_le_pow_right (by decide) hj))
theorem same_bits {s t : Nat} (hs : s < 2 ^ 64) (ht : t < 2 ^ 64) (h : ∀ j, j < 64 → s.testBit j = t.testBit j) : s = t := by
  apply Nat.eq_of_testBit_eq
  intro j
  by_cases hj : j < 64
  · exact h j hj
  · rw [bit_small hs (by omega), bit_small ht (by omega)]

/-! ### The elements, and their number -/
/-- The elements in ascending order. -/
def elems (s : Nat) : List Nat := (List.range 64).filter fun i => s.testBit i
theorem mem_elems (s i : Nat) : i ∈ elems s ↔ i < 64 ∧ s.testBit i = true := by
  unfold elems
  rw [List.mem_filter, List.mem_range]
theorem elems_len (s : Nat) : (elems s).length ≤ 64 := by
  have := List.length_filter_le (fun i => s.testBit i) (List.range 64)
  rw [List.length_range] at this
  exact this
theorem elems_rise (s : Nat) : (elems s).Pairwise (· < ·) := List.Pairwise.filter _ List.pairwise_lt_range
theorem rise_unique : ∀ a b : List Nat, a.Pairwise (· < ·) → b.Pairwise (· < ·) → (∀ i, i ∈ a ↔ i ∈ b) → a = b
  | [], [], _, _, _ => rfl
  | [], y :: b, _, _, h => by have := (h y).2 (by simp); cases this
  | x :: a, [], _, _, h => by have := (h x).1 (by simp); cases this
  | x :: a, y :: b, ha, hb, h => by
    rw [List.pairwise_cons] at ha hb
    have hxy : x = y := by
      rcases List.mem_cons.1 ((h x).1 (by simp)) with e | hx
      · exact e
      · rcases List.mem_cons.1 ((h y).2 (by simp)) with e | hy
        · exact e.symm
        · have := hb.1 x hx; have := ha.1 y hy; omega
    subst hxy
    rw [rise_unique a b ha.2 hb.2 (fun i => ?_)]
    constructor
    · intro hi
      rcases List.mem_cons.1 ((h i).1 (List.mem_cons_of_mem _ hi)) with e | hm
      · subst e; have := ha.1 i hi; omega
      · exact hm
    · intro hi
      rcases List.mem_cons.1 ((h i).2 (List.mem_cons_of_mem _ hi)) with e | hm
      · subst e; have := hb.1 i hi; omega
      · exact hm
theorem elems_eq {s : Nat} {l : List Nat} (h1 : l.Pairwise (· < ·)) (h2 : ∀ i, i ∈ l ↔ i < 64 ∧ s.testBit i = true) : l = elems s :=
  rise_unique l _ h1 (elems_rise s) fun i => (h2 i).trans (mem_elems s i).symm
theorem count_or_and {α : Type} (p q : α → Bool) : ∀ l : List α, (l.filter fun x => p x || q x).length + (l.filter fun x => p x && q x).length = (l.filter p).length + (l.filter q).length
  | [] => rfl
  | x :: l => by
    have := count_or_and p q l
    cases hp : p x <;> cases hq : q x <;> simp [hp, hq] <;> omega
theorem card_sum (s t : Nat) : (elems (s ||| t)).length + (elems (s &&& t)).length = (elems s).length + (elems t).length := by
  unfold elems
  rw [← count_or_and (fun i => s.testBit i) (fun i => t.testBit i)]
  simp only [Nat.testBit_or, Nat.testBit_and]
/-- The set of a list of ints. -/
def setOfL (l : List Int) : Nat := l.foldl (fun s i => if 0 ≤ i ∧ i < 64 then putB s i.toNat else s) 0
theorem fold_bits : ∀ (l : List Int) (s : Nat) (j : Nat), j < 64 → (l.foldl (fun s i => if 0 ≤ i ∧ i < 64 then putB s i.toNat else s) s).testBit j = (s.testBit j || decide ((j : Int) ∈ l))
  | [], s, j, _ => by simp
  | x :: l, s, j, hj => by
    rw [List.foldl_cons, fold_bits l _ j hj]
    split
    · next h =>
      rw [put_bit]
      by_cases hx : (j : Int) = x
      · subst hx; simp [hj]
      · have : ¬ x.toNat = j := by omega
        simp [this, hx]
    · next h =>
      have : ¬ (j : Int) = x := by omega
      simp [this]
theorem set_bits (l : List Int) (j : Nat) (hj : j < 64) : (setOfL l).testBit j = decide ((j : Int) ∈ l) := by
  unfold setOfL
  rw [fold_bits l 0 j hj]
  simp
theorem foldB_lt : ∀ (l : List Int) (s : Nat), s < 2 ^ 64 → l.foldl (fun s i => if 0 ≤ i ∧ i < 64 then putB s i.toNat else s) s < 2 ^ 64
  | [], _, h => h
  | x :: l, s, h => by
    rw [List.foldl_cons]
    refine foldB_lt l _ ?_
    split
    · exact put_lt h
    · exact h
theorem set_lt (l : List Int) : setOfL l < 2 ^ 64 := foldB_lt l 0 (by decide)
theorem set_elems {s : Nat} (h : s < 2 ^ 64) : setOfL ((elems s).map fun i : Nat => (i : Int)) = s := by
  refine same_bits (set_lt _) h fun j hj => ?_
  rw [set_bits _ j hj, Bool.eq_iff_iff, decide_eq_true_iff, List.mem_map]
  constructor
  · rintro ⟨i, hi, he⟩
    obtain rfl : i = j := by omega
    exact ((mem_elems s i).1 hi).2
  · intro hb
    exact ⟨j, (mem_elems s j).2 ⟨hj, hb⟩, rfl⟩

/-! ### The lowest bit -/
theorem low_form {s m : Nat} (hb : s.testBit m = true) (hl : ∀ j, j < m → s.testBit j = false) : s = 2 ^ (m + 1) * (s / 2 ^ (m + 1)) + 2 ^ m := by
  have h0 : s % 2 ^ m = 0 := by
    apply Nat.eq_of_testBit_eq
    intro j
    rw [Nat.testBit_mod_two_pow, Nat.zero_testBit]
    by_cases hj : j < m
    · simp [hl j hj]
    · simp [hj]
  have h1 : s % 2 ^ (m + 1) = 2 ^ m := by
    rw [Nat.pow_succ, Nat.mod_mul, h0, (bit_div s m).2 hb]
    omega
  have := Nat.div_add_mod s (2 ^ (m + 1))
  omega
/-- Taking one away and keeping what both have takes the lowest bit away. -/
theorem low_clear {s m : Nat} (hb : s.testBit m = true) (hl : ∀ j, j < m → s.testBit j = false) : s &&& (s - 1) = delB s m := by
  have hf := low_form hb hl
  generalize s / 2 ^ (m + 1) = r at hf
  have hp := Nat.two_pow_pos m
  have hs : s - 1 = 2 ^ (m + 1) * r + (2 ^ m - 1) := by omega
  have hz : (2 ^ m - 1).testBit m = false := Nat.testBit_lt_two_pow (by omega)
  apply Nat.eq_of_testBit_eq
  intro j
  rw [Nat.testBit_and, del_bit]
  rcases Nat.lt_trichotomy j m with hj | hj | hj
  · simp [hl j hj]
  · subst hj
    rw [hs, Nat.testBit_two_pow_mul_add _ (by rw [Nat.pow_succ]; omega), if_pos (by omega), hz]
    simp
  · have hne : ¬ m = j := by omega
    rw [hs, Nat.testBit_two_pow_mul_add _ (by rw [Nat.pow_succ]; omega), if_neg (by omega)]
    rw [hf, Nat.testBit_two_pow_mul_add _ (by rw [Nat.pow_succ]; omega), if_neg (by omega)]
    simp [hne]
theorem elems_low {s m : Nat} (hm : m < 64) (hb : s.testBit m = true) (hl : ∀ j, j < m → s.testBit j = false) : elems s = m :: elems (delB s m) := by
  refine (elems_eq ?_ fun i => ?_).symm
  · rw [List.pairwise_cons]
    refine ⟨fun i hi => ?_, elems_rise _⟩
    have h := (mem_elems _ _).1 hi
    rw [del_bit, Bool.and_eq_true] at h
    rcases Nat.lt_trichotomy i m with h1 | h1 | h1
    · rw [hl i h1] at h; simp at h
    · subst h1; simp at h
    · exact h1
  · rw [List.mem_cons, mem_elems, del_bit]
    by_cases him : i = m
    · subst him; simp [hm, hb]
    · simp [him, Ne.symm him]
theorem elems_zero : elems 0 = [] := by
  unfold elems
  rw [List.filter_eq_nil_iff]
  intro i _
  simp
theorem low_exists {s : Nat} (h : s < 2 ^ 64) (h0 : s ≠ 0) : ∃ m, m < 64 ∧ s.testBit m = true ∧ ∀ j, j < m → s.testBit j = false := by
  cases he : elems s with
  | nil =>
    refine absurd (same_bits h (by decide) fun j hj => ?_) h0
    rw [Nat.zero_testBit]
    cases hb : s.testBit j with
    | false => rfl
    | true =>
      have := (mem_elems s j).2 ⟨hj, hb⟩
      rw [he] at this
      cases this
  | cons m r =>
    have hm : m ∈ elems s := by rw [he]; simp
    have h1 := (mem_elems s m).1 hm
    refine ⟨m, h1.1, h1.2, fun j hj => ?_⟩
    cases hb : s.testBit j with
    | false => rfl
    | true =>
      have hj2 := (mem_elems s j).2 ⟨by omega, hb⟩
      have hr := elems_rise s
      rw [he] at hj2 hr
      rw [List.pairwise_cons] at hr
      rcases List.mem_cons.1 hj2 with e | hx
      · omega
      · have := hr.1 j hx; omega

/-! ### The word of one element -/
abbrev W64 (s : Nat) : Prop := s < 18446744073709551616
/-- The word of one element. -/
def one (i : Int) : Nat := if 0 ≤ i ∧ i < 64 then 2 ^ i.toNat else 0
theorem pow_lt64 {k : Nat} (h : k < 64) : 2 ^ k < 18446744073709551616 := by
  rw [show 18446744073709551616 = 2 ^ 64 by rfl]
  exact Nat.pow_lt_pow_right (by decide) h
theorem one_lt (i : Int) : W64 (one i) := by
  unfold one
  split
  · exact pow_lt64 (by omega)
  · decide
theorem one_bit (i : Int) (j : Nat) (hj : j < 64) : (one i).testBit j = decide (i = (j : Int)) := by
  unfold one
  split
  · next h =>
    rw [Nat.testBit_two_pow, Bool.eq_iff_iff, decide_eq_true_iff, decide_eq_true_iff]
    omega
  · next h =>
    rw [Nat.zero_testBit]
    exact (decide_eq_false (by omega)).symm
theorem or_lt {s t : Nat} (hs : W64 s) (ht : W64 t) : W64 (s ||| t) := Nat.or_lt_two_pow (n := 64) hs ht
end Go.Proofs.Ytkpmmojfnhfflaa
