/-
  Plain facts about identifiers: their form, the bytewise order, the first bad element of a list, sorted sections of a table: no program. Condition: none beyond each theorem's own hypotheses. Plain facts about sets of the integers from 0 to 63 as natural numbers: bits added and taken away, sets made of lists, their elements in order, their number: no program. Condition: none beyond each theorem's own hypotheses. Plain facts about the sorted indices of the names that begin with a string: the one list of them, a longer string's part of a shorter one's; the library's order of bytes is ours: no program. Condition: the names are different, where a theorem says so. The number of bits of a word of 64 bits, added up in parallel: pairs, nibbles, bytes, as natural numbers: no program. Condition: none beyond each theorem's own hypotheses. Plain facts about lists of any kind: the first bad one behind the keys of the earlier ones, the first one with a property, the indices of all with a property, a list told apart into two: no program. Condition: none beyond each theorem's own hypotheses. Plain facts about routes and modes of transport: the first bad route, the set of the modes, the routes with modes of a set, the text of a set of modes and back: no program. Condition: none beyond each theorem's own hypotheses. Plain facts about lists of calls: which one is the first that is not valid, calls shifted in time, the pairs that are rides in their order, the time from the first departure to the last arrival: no program. Condition: none beyond each theorem's own hypotheses. Plain facts about lists of ints in order: a list sorted, what is in it, that its order and its elements tell it, one more put into its place from behind: no program. Condition: none beyond each theorem's own hypotheses. Plain facts about frequencies: which are sound, their starts, the starts of a trip's frequencies together, calls started at a time, the first frequency that is not valid, what follows for frequencies that are accepted: no program. Condition: none beyond each theorem's own hypotheses. Plain facts about the indices of all with a property (the one at a place, that they ascend) and about the first bad one of a list (of a beginning of it, what follows for each of an accepted one): no program. Condition: none beyond each theorem's own hypotheses.
-/
import Derived.Test.YtkhalnjgbdpfhaaGreatDigits
import Derived.Lib.Bytealg
import Derived.RowKit
namespace Go.Proofs.YtkhalnjgbdpfhaaGreat
open Go

/-! ### The form -/
/-- A byte that an identifier may hold. -/
def idB (c : UInt8) : Bool := decide ((65 ≤ c.toNat ∧ c.toNat ≤ 90) ∨ (97 ≤ c.toNat ∧ c.toNat ≤ 122) ∨ (48 ≤ c.toNat ∧ c.toNat ≤ 57) ∨ c.toNat = 45 ∨ c.toNat = 95 ∨ c.toNat = 46)
/-- An identifier. -/
def validB (l : List UInt8) : Bool := decide (1 ≤ l.length) && decide (l.length ≤ 32) && l.all idB
theorem valid_iff (l : List UInt8) : validB l = true ↔ (1 ≤ l.length ∧ l.length ≤ 32) ∧ l.all idB = true := by
  unfold validB
  rw [Bool.and_eq_true, Bool.and_eq_true, decide_eq_true_iff, decide_eq_true_iff]

/-! ### The bytewise order -/
/-- -1, 0 or 1. -/
def cmpL : List UInt8 → List UInt8 → Int
  | [], [] => 0
  | [], _ :: _ => -1
  | _ :: _, [] => 1
  | a :: x, b :: y => if a.toNat < b.toNat then -1 else if b.toNat < a.toNat then 1 else cmpL x y
theorem cmp_self : ∀ a : List UInt8, cmpL a a = 0
  | [] => rfl
  | a :: x => by
    unfold cmpL
    rw [if_neg (Nat.lt_irrefl _), if_neg (Nat.lt_irrefl _)]
    exact cmp_self x
theorem cmp_three : ∀ a b : List UInt8, cmpL a b = -1 ∨ cmpL a b = 0 ∨ cmpL a b = 1
  | [], [] => Or.inr (Or.inl rfl)
  | [], _ :: _ => Or.inl rfl
  | _ :: _, [] => Or.inr (Or.inr rfl)
  | a :: x, b :: y => by
    unfold cmpL
    split
    · exact Or.inl rfl
    · split
      · exact Or.inr (Or.inr rfl)
      · exact cmp_three x y
theorem cmp_neg : ∀ a b : List UInt8, cmpL b a = -cmpL a b
  | [], [] => rfl
  | [], _ :: _ => rfl
  | _ :: _, [] => rfl
  | a :: x, b :: y => by
    unfold cmpL
    by_cases h1 : a.toNat < b.toNat
    · rw [if_pos h1, if_neg (by omega), if_pos h1]; rfl
    · by_cases h2 : b.toNat < a.toNat
      · rw [if_pos h2, if_neg h1, if_pos h2]
      · rw [if_neg h2, if_neg h1, if_neg h1, if_neg h2]
        exact cmp_neg x y
theorem cmp_eq : ∀ a b : List UInt8, cmpL a b = 0 → a = b
  | [], [], _ => rfl
  | [], _ :: _, h => by simp [cmpL] at h
  | _ :: _, [], h => by simp [cmpL] at h
  | a :: x, b :: y, h => by
    unfold cmpL at h
    by_cases h1 : a.toNat < b.toNat
    · rw [if_pos h1] at h; simp at h
    · by_cases h2 : b.toNat < a.toNat
      · rw [if_neg h1, if_pos h2] at h; simp at h
      · rw [if_neg h1, if_neg h2] at h
        have hab : a = b := UInt8.toNat_inj.1 (by omega)
        rw [hab, cmp_eq x y h]
theorem cmp_iff (a b : List UInt8) : cmpL a b = 0 ↔ a = b := ⟨cmp_eq a b, fun h => h ▸ cmp_self a⟩
/-- The one comes before the other. -/
def ltL (a b : List UInt8) : Prop := cmpL a b = -1
theorem lt_cons (a b : UInt8) (x y : List UInt8) : ltL (a :: x) (b :: y) ↔ a.toNat < b.toNat ∨ (a.toNat = b.toNat ∧ ltL x y) := by
  unfold ltL
  constructor
  · intro h
    unfold cmpL at h
    by_cases h1 : a.toNat < b.toNat
    · exact Or.inl h1
    · by_cases h2 : b.toNat < a.toNat
      · rw [if_neg h1, if_pos h2] at h; simp at h
      · rw [if_neg h1, if_neg h2] at h
        exact Or.inr ⟨by omega, h⟩
  · intro h
    unfold cmpL
    rcases h with h | ⟨h, h2⟩
    · rw [if_pos h]
    · rw [if_neg (by omega), if_neg (by omega)]
      exact h2
theorem lt_trans : ∀ a b c : List UInt8, ltL a b → ltL b c → ltL a c
  | [], [], _, h, _ => by simp [ltL, cmpL] at h
  | [], _ :: _, [], _, h => by simp [ltL, cmpL] at h
  | [], _ :: _, _ :: _, _, _ => rfl
  | _ :: _, [], _, h, _ => by simp [ltL, cmpL] at h
  | _ :: _, _ :: _, [], _, h => by simp [ltL, cmpL] at h
  | a :: x, b :: y, c :: z, h1, h2 => by
    rw [lt_cons] at h1 h2 ⊢
    rcases h1 with h1 | ⟨h1, k1⟩
    · rcases h2 with h2 | ⟨h2, k2⟩
      · exact Or.inl (by omega)
      · exact Or.inl (by omega)
    · rcases h2 with h2 | ⟨h2, k2⟩
      · exact Or.inl (by omega)
      · exact Or.inr ⟨by omega, lt_trans x y z k1 k2⟩
theorem lt_irrefl (a : List UInt8) : ¬ ltL a a := by
  unfold ltL
  rw [cmp_self]
  decide
theorem lt_flip (a b : List UInt8) : cmpL a b = 1 ↔ ltL b a := by
  unfold ltL
  rw [cmp_neg a b]
  omega
theorem cmp_le (a b : List UInt8) : cmpL a b ≤ 0 ↔ ltL a b ∨ a = b := by
  unfold ltL
  rw [← cmp_iff]
  have := cmp_three a b
  omega
theorem cmp_trans (a b c : List UInt8) (h1 : cmpL a b ≤ 0) (h2 : cmpL b c ≤ 0) : cmpL a c ≤ 0 := by
  rw [cmp_le] at *
  rcases h1 with h1 | rfl
  · rcases h2 with h2 | rfl
    · exact Or.inl (lt_trans a b c h1 h2)
    · exact Or.inl h1
  · exact h2
theorem cmp_drop : ∀ (k : Nat) (a b : List UInt8), a.take k = b.take k → cmpL a b = cmpL (a.drop k) (b.drop k)
  | 0, _, _, _ => rfl
  | k + 1, [], [], _ => rfl
  | k + 1, [], _ :: _, h => by simp at h
  | k + 1, _ :: _, [], h => by simp at h
  | k + 1, a :: x, b :: y, h => by
    simp only [List.take_succ_cons, List.cons.injEq] at h
    obtain ⟨rfl, h⟩ := h
    conv => lhs; unfold cmpL
    rw [if_neg (Nat.lt_irrefl _), if_neg (Nat.lt_irrefl _)]
    exact cmp_drop k x y h

/-! ### The first bad element -/
/-- The index and the number of the error of the first bad element, when those before index k are good. -/
def uniqFrom (l : List (List UInt8)) : Nat → Nat → Int × Int
  | 0, _ => (0, 0)
  | f + 1, k => match l[k]? with
    | none => (0, 0)
    | some x => if validB x = false then (k, 12) else if x ∈ l.take k then (k, 6) else uniqFrom l f (k + 1)
/-- What Unique answers. -/
def uniqR (l : List (List UInt8)) : Int × Int := uniqFrom l (l.length + 1) 0
theorem uniq_end (l : List (List UInt8)) (f k : Nat) (h : l.length ≤ k) : uniqFrom l f k = (0, 0) := by
  cases f with
  | zero => rfl
  | succ f => unfold uniqFrom; rw [List.getElem?_eq_none h]
theorem uniq_name (l : List (List UInt8)) (f k : Nat) (x : List UInt8) (h : l[k]? = some x) (hv : validB x = false) : uniqFrom l (f + 1) k = ((k : Int), (12 : Int)) := by
  unfold uniqFrom
  rw [h]
  simp only []
  rw [if_pos hv]
theorem uniq_twice (l : List (List UInt8)) (f k : Nat) (x : List UInt8) (h : l[k]? = some x) (hv : validB x = true) (hm : x ∈ l.take k) : uniqFrom l (f + 1) k = ((k : Int), (6 : Int)) := by
  unfold uniqFrom
  rw [h]
  simp only []
  rw [if_neg (by simp [hv]), if_pos hm]
theorem uniq_good (l : List (List UInt8)) (f k : Nat) (x : List UInt8) (h : l[k]? = some x) (hv : validB x = true) (hm : x ∉ l.take k) : uniqFrom l (f + 1) k = uniqFrom l f (k + 1) := by
  conv => lhs; unfold uniqFrom
  rw [h]
  simp only []
  rw [if_neg (by simp [hv]), if_neg hm]
theorem uniq_ok : ∀ (f : Nat) (l : List (List UInt8)) (k : Nat), l.length + 1 ≤ f + k → (uniqFrom l f k).2 = 0 → ∀ (j : Nat) x, k ≤ j → l[j]? = some x → validB x = true ∧ x ∉ l.take j
  | 0, l, k, hf, _, j, x, hj, hx => by
    have := (List.getElem?_eq_some_iff.1 hx).1
    omega
  | f + 1, l, k, hf, h, j, x, hj, hx => by
    have hjl := (List.getElem?_eq_some_iff.1 hx).1
    obtain ⟨y, hy⟩ : ∃ y, l[k]? = some y := ⟨l[k]'(by omega), List.getElem?_eq_getElem (by omega)⟩
    cases hv : validB y with
    | false => rw [uniq_name l f k y hy hv] at h; simp at h
    | true =>
      by_cases hm : y ∈ l.take k
      · rw [uniq_twice l f k y hy hv hm] at h; simp at h
      · rw [uniq_good l f k y hy hv hm] at h
        by_cases hjk : j = k
        · subst hjk
          rw [hy] at hx
          obtain rfl := Option.some.inj hx
          exact ⟨hv, hm⟩
        · exact uniq_ok f l (k + 1) (by omega) h j x (by omega) hx
/-- A list of different identifiers. -/
def Good5 (l : List (List UInt8)) : Prop := (uniqR l).2 = 0
theorem good_valid {l : List (List UInt8)} (h : Good5 l) {j : Nat} {x : List UInt8} (hx : l[j]? = some x) : validB x = true := (uniq_ok _ l 0 (by omega) h j x (Nat.zero_le _) hx).1
theorem good_diff {l : List (List UInt8)} (h : Good5 l) {i j : Nat} {x : List UInt8} (hi : l[i]? = some x) (hj : l[j]? = some x) : i = j := by
  have a1 := fun h2 : i < j => (uniq_ok _ l 0 (by omega) h j x (Nat.zero_le _) hj).2 (List.mem_iff_getElem?.2 ⟨i, by rw [List.getElem?_take, if_pos h2]; exact hi⟩)
  have a2 := fun h2 : j < i => (uniq_ok _ l 0 (by omega) h i x (Nat.zero_le _) hi).2 (List.mem_iff_getElem?.2 ⟨j, by rw [List.getElem?_take, if_pos h2]; exact hj⟩)
  rcases Nat.lt_trichotomy i j with h2 | h2 | h2
  · exact absurd h2 a1
  · exact h2
  · exact absurd h2 a2
/-- The name at an index. -/
def nameAt (l : List (List UInt8)) (i : Nat) : List UInt8 := l.getD i []

/-! ### Sorted indices -/
/-- In strictly increasing order of the names. -/
def Rises (l : List (List UInt8)) (o : List Nat) : Prop := o.Pairwise fun i j => ltL (nameAt l i) (nameAt l j)
theorem rises_unique (l : List (List UInt8)) : ∀ (a b : List Nat), Rises l a → Rises l b → (∀ i, i ∈ a ↔ i ∈ b) → a = b
  | [], [], _, _, _ => rfl
  | [], y :: b, _, _, h => by have := (h y).2 (by simp); cases this
  | x :: a, [], _, _, h => by have := (h x).1 (by simp); cases this
  | x :: a, y :: b, ha, hb, h => by
    unfold Rises at ha hb
    rw [List.pairwise_cons] at ha hb
    have hxy : x = y := by
      rcases List.mem_cons.1 ((h x).1 (by simp)) with e | hx
      · exact e
      · rcases List.mem_cons.1 ((h y).2 (by simp)) with e | hy
        · exact e.symm
        · exact absurd (lt_trans _ _ _ (hb.1 x hx) (ha.1 y hy)) (lt_irrefl _)
    subst hxy
    have hna : x ∉ a := fun hm => lt_irrefl _ (ha.1 x hm)
    have hnb : x ∉ b := fun hm => lt_irrefl _ (hb.1 x hm)
    rw [rises_unique l a b ha.2 hb.2 (fun i => ?_)]
    constructor
    · intro hi
      rcases List.mem_cons.1 ((h i).1 (List.mem_cons_of_mem _ hi)) with e | hm
      · subst e; exact absurd hi hna
      · exact hm
    · intro hi
      rcases List.mem_cons.1 ((h i).2 (List.mem_cons_of_mem _ hi)) with e | hm
      · subst e; exact absurd hi hnb
      · exact hm
/-- An index put into its place behind the first k. -/
theorem rises_put (l : List (List UInt8)) (o : List Nat) (i k : Nat) (ho : Rises l o) (h1 : ∀ j x, j < k → o[j]? = some x → ltL (nameAt l x) (nameAt l i)) (h2 : ∀ x, o[k]? = some x → ltL (nameAt l i) (nameAt l x)) :
    Rises l (o.take k ++ i :: o.drop k) := by
  unfold Rises at *
  have hsplit : (o.take k ++ o.drop k).Pairwise fun i j => ltL (nameAt l i) (nameAt l j) := by rw [List.take_append_drop]; exact ho
  rw [List.pairwise_append] at hsplit ⊢
  obtain ⟨p1, p2, p3⟩ := hsplit
  have hd : ∀ x ∈ o.drop k, ltL (nameAt l i) (nameAt l x) := by
    intro x hx
    cases hdk : o.drop k with
    | nil => rw [hdk] at hx; cases hx
    | cons y r =>
      have hyk : o[k]? = some y := by
        have : (o.drop k)[0]? = some y := by rw [hdk]; rfl
        rw [List.getElem?_drop, Nat.add_zero] at this
        exact this
      rw [hdk] at hx p2
      rw [List.pairwise_cons] at p2
      rcases List.mem_cons.1 hx with rfl | hx
      · exact h2 _ hyk
      · exact lt_trans _ _ _ (h2 y hyk) (p2.1 x hx)
  refine ⟨p1, ?_, ?_⟩
  · rw [List.pairwise_cons]
    exact ⟨hd, p2⟩
  · intro x hx y hy
    have hxi : ltL (nameAt l x) (nameAt l i) := by
      obtain ⟨j, hj⟩ := List.mem_iff_getElem?.1 hx
      rw [List.getElem?_take] at hj
      split at hj
      · next hlt => exact h1 j x hlt hj
      · cases hj
    rcases List.mem_cons.1 hy with rfl | hy
    · exact hxi
    · exact p3 x hx y hy
theorem mem_put (o : List Nat) (i k x : Nat) : x ∈ o.take k ++ i :: o.drop k ↔ x = i ∨ x ∈ o := by
  rw [List.mem_append, List.mem_cons]
  constructor
  · rintro (h | h | h)
    · exact Or.inr (List.mem_of_mem_take h)
    · exact Or.inl h
    · exact Or.inr (List.mem_of_mem_drop h)
  · rintro (h | h)
    · exact Or.inr (Or.inl h)
    · rw [← List.take_append_drop k o, List.mem_append] at h
      rcases h with h | h
      · exact Or.inl h
      · exact Or.inr (Or.inr h)
/-- The name begins with p. -/
def beginsB (p x : List UInt8) : Bool := p.isPrefixOf x
/-- The indices of the names that begin with p, in the order of the names. -/
def Section (l : List (List UInt8)) (p : List UInt8) (o : List Nat) : Prop := Rises l o ∧ ∀ i, i ∈ o ↔ i < l.length ∧ beginsB p (nameAt l i) = true
theorem section_unique {l : List (List UInt8)} {p : List UInt8} {a b : List Nat} (ha : Section l p a) (hb : Section l p b) : a = b :=
  rises_unique l a b ha.1 hb.1 fun i => (ha.2 i).trans (hb.2 i).symm
theorem begins_nil (x : List UInt8) : beginsB [] x = true := rfl
end Go.Proofs.YtkhalnjgbdpfhaaGreat
namespace Go.Proofs.YtkhalnjgbdpfhaaGreat
open Go

/-! ### One bit -/
theorem bit_div (s i : Nat) : (s / 2 ^ i % 2 = 1) ↔ s.testBit i = true := by
  rw [Nat.testBit_eq_decide_div_mod_eq, decide_eq_true_iff]
/-- The set with an element. -/
def putB (s i : Nat) : Nat := if i < 64 then s ||| 2 ^ i else s
/-- The set without an element. -/
def delB (s i : Nat) : Nat := if s.testBit i then s - 2 ^ i else s
theorem put_bit (s i j : Nat) : (putB s i).testBit j = (s.testBit j || (decide (i = j) && decide (i < 64))) := by
  unfold putB
  split
  · next h => rw [Nat.testBit_or, Nat.testBit_two_pow]; simp [h]
  · next h => simp [h]
theorem bit_add {s i : Nat} (h : s.testBit i = false) : s + 2 ^ i = s ||| 2 ^ i := by
  apply Nat.eq_of_testBit_eq
  intro j
  rw [Nat.testBit_or, Nat.testBit_two_pow]
  rw [Nat.add_comm]
  rcases Nat.lt_trichotomy j i with hj | hj | hj
  · rw [Nat.testBit_two_pow_add_gt hj]
    simp; omega
  · subst hj
    rw [Nat.testBit_two_pow_add_eq, h]
    simp
  · -- above the bit nothing is carried
    have hs : s = s % 2 ^ (i + 1) + 2 ^ (i + 1) * (s / 2 ^ (i + 1)) := (Nat.mod_add_div _ _).symm
    have hlow : s % 2 ^ (i + 1) < 2 ^ i := by
      have hdiv : s / 2 ^ i % 2 = 0 := by
        have := bit_div s i
        rw [h] at this
        simp at this
        omega
      have h1 : s % 2 ^ (i + 1) = s % 2 ^ i + 2 ^ i * (s / 2 ^ i % 2) := by rw [Nat.pow_succ, Nat.mod_mul]
      rw [h1, hdiv, Nat.mul_zero, Nat.add_zero]
      exact Nat.mod_lt _ (Nat.two_pow_pos i)
    have hsum : 2 ^ i + s = 2 ^ (i + 1) * (s / 2 ^ (i + 1)) + (2 ^ i + s % 2 ^ (i + 1)) := by omega
    rw [hsum, Nat.testBit_two_pow_mul_add _ (Nat.lt_of_lt_of_le (Nat.add_lt_add_left hlow _) (by rw [Nat.pow_succ]; omega))]
    rw [if_neg (by omega)]
    conv => rhs; rw [show s = 2 ^ (i + 1) * (s / 2 ^ (i + 1)) + s % 2 ^ (i + 1) by omega]
    rw [Nat.testBit_two_pow_mul_add _ (Nat.mod_lt _ (Nat.two_pow_pos _)), if_neg (by omega)]
    simp; omega
theorem put_lt {s i : Nat} (h : s < 2 ^ 64) : putB s i < 2 ^ 64 := by
  unfold putB
  split
  · next hi => exact Nat.or_lt_two_pow h (Nat.pow_lt_pow_right (by decide) hi)
  · exact h
theorem put_add {s i : Nat} (hi : i < 64) (h : s.testBit i = false) : s + 2 ^ i = putB s i := by
  unfold putB
  rw [if_pos hi, bit_add h]
theorem put_same {s i : Nat} (h : s.testBit i = true) : putB s i = s := by
  apply Nat.eq_of_testBit_eq
  intro j
  rw [put_bit]
  by_cases hij : i = j
  · subst hij; simp [h]
  · simp [hij]
theorem bit_clear {s i : Nat} (h : s.testBit i = true) : ∃ r, s = r + 2 ^ i ∧ r.testBit i = false ∧ ∀ j, j ≠ i → r.testBit j = s.testBit j := by
  refine ⟨s ^^^ 2 ^ i, ?_, ?_, fun j hj => ?_⟩
  · have h0 : (s ^^^ 2 ^ i).testBit i = false := by rw [Nat.testBit_xor, Nat.testBit_two_pow, h]; simp
    rw [bit_add h0]
    apply Nat.eq_of_testBit_eq
    intro j
    rw [Nat.testBit_or, Nat.testBit_xor, Nat.testBit_two_pow]
    by_cases hij : i = j
    · subst hij; simp [h]
    · simp [hij]
  · rw [Nat.testBit_xor, Nat.testBit_two_pow, h]; simp
  · rw [Nat.testBit_xor, Nat.testBit_two_pow]
    simp [Ne.symm hj]
theorem del_bit (s i j : Nat) : (delB s i).testBit j = (s.testBit j && !(decide (i = j))) := by
  unfold delB
  split
  · next h =>
    obtain ⟨r, hr, h1, h2⟩ := bit_clear h
    rw [show s - 2 ^ i = r by omega]
    by_cases hij : i = j
    · subst hij; simp [h1]
    · rw [h2 j (Ne.symm hij)]; simp [hij]
  · next h =>
    by_cases hij : i = j
    · subst hij; simp [h]
    · simp [hij]
theorem del_le (s i : Nat) : delB s i ≤ s := by
  unfold delB
  split
  · exact Nat.sub_le _ _
  · exact Nat.le_refl _
theorem bit_small {s : Nat} (h : s < 2 ^ 64) {j : Nat} (hj : 64 ≤ j) : s.testBit j = false := Nat.testBit_lt_two_pow (Nat.lt_of_lt_of_le h (Nat.pow_le_pow_right (by decide) hj))
theorem same_bits {s t : Nat} (hs : s < 2 ^ 64) (ht : t < 2 ^ 64) (h : ∀ j, j < 64 → s.testBit j = t.testBit j) : s = t := by
  apply Nat.eq_of_testBit_eq
  intro j
  by_cases hj : j < 64
  · exact h j hj
  · rw [bit_small hs (by omega), bit_small ht (by omega)]

/-! ### The elements, and their number -/
/-- The elements in ascending order. -/
def elems (s : Nat) : List Nat := (List.range 64).filter fun i => s.testBit i
theorem mem_elems (s i : Nat) : i ∈ elems s ↔ i < 64 ∧ s.testBit i = true := by
  unfold elems
  rw [List.mem_filter, List.mem_range]
theorem elems_len (s : Nat) : (elems s).length ≤ 64 := by
  have := List.length_filter_le (fun i => s.testBit i) (List.range 64)
  rw [List.length_range] at this
  exact this
theorem elems_rise (s : Nat) : (elems s).Pairwise (· < ·) := List.Pairwise.filter _ List.pairwise_lt_range
theorem rise_unique : ∀ a b : List Nat, a.Pairwise (· < ·) → b.Pairwise (· < ·) → (∀ i, i ∈ a ↔ i ∈ b) → a = b
  | [], [], _, _, _ => rfl
  | [], y :: b, _, _, h => by have := (h y).2 (by simp); cases this
  | x :: a, [], _, _, h => by have := (h x).1 (by simp); cases this
  | x :: a, y :: b, ha, hb, h => by
    rw [List.pairwise_cons] at ha hb
    have hxy : x = y := by
      rcases List.mem_cons.1 ((h x).1 (by simp)) with e | hx
      · exact e
      · rcases List.mem_cons.1 ((h y).2 (by simp)) with e | hy
        · exact e.symm
        · have := hb.1 x hx; have := ha.1 y hy; omega
    subst hxy
    rw [rise_unique a b ha.2 hb.2 (fun i => ?_)]
    constructor
    · intro hi
      rcases List.mem_cons.1 ((h i).1 (List.mem_cons_of_mem _ hi)) with e | hm
      · subst e; have := ha.1 i hi; omega
      · exact hm
    · intro hi
      rcases List.mem_cons.1 ((h i).2 (List.mem_cons_of_mem _ hi)) with e | hm
      · subst e; have := hb.1 i hi; omega
      · exact hm
theorem elems_eq {s : Nat} {l : List Nat} (h1 : l.Pairwise (· < ·)) (h2 : ∀ i, i ∈ l ↔ i < 64 ∧ s.testBit i = true) : l = elems s :=
  rise_unique l _ h1 (elems_rise s) fun i => (h2 i).trans (mem_elems s i).symm
theorem count_or_and {α : Type} (p q : α → Bool) : ∀ l : List α, (l.filter fun x => p x || q x).length + (l.filter fun x => p x && q x).length = (l.filter p).length + (l.filter q).length
  | [] => rfl
  | x :: l => by
    have := count_or_and p q l
    cases hp : p x <;> cases hq : q x <;> simp [hp, hq] <;> omega
theorem card_sum (s t : Nat) : (elems (s ||| t)).length + (elems (s &&& t)).length = (elems s).length + (elems t).length := by
  unfold elems
  rw [← count_or_and (fun i => s.testBit i) (fun i => t.testBit i)]
  simp only [Nat.testBit_or, Nat.testBit_and]
/-- The set of a list of ints. -/
def setOfL (l : List Int) : Nat := l.foldl (fun s i => if 0 ≤ i ∧ i < 64 then putB s i.toNat else s) 0
theorem fold_bits : ∀ (l : List Int) (s : Nat) (j : Nat), j < 64 → (l.foldl (fun s i => if 0 ≤ i ∧ i < 64 then putB s i.toNat else s) s).testBit j = (s.testBit j || decide ((j : Int) ∈ l))
  | [], s, j, _ => by simp
  | x :: l, s, j, hj => by
    rw [List.foldl_cons, fold_bits l _ j hj]
    split
    · next h =>
      rw [put_bit]
      by_cases hx : (j : Int) = x
      · subst hx; simp [hj]
      · have : ¬ x.toNat = j := by omega
        simp [this, hx]
    · next h =>
      have : ¬ (j : Int) = x := by omega
      simp [this]
theorem set_bits (l : List Int) (j : Nat) (hj : j < 64) : (setOfL l).testBit j = decide ((j : Int) ∈ l) := by
  unfold setOfL
  rw [fold_bits l 0 j hj]
  simp
theorem foldB_lt : ∀ (l : List Int) (s : Nat), s < 2 ^ 64 → l.foldl (fun s i => if 0 ≤ i ∧ i < 64 then putB s i.toNat else s) s < 2 ^ 64
  | [], _, h => h
  | x :: l, s, h => by
    rw [List.foldl_cons]
    refine foldB_lt l _ ?_
    split
    · exact put_lt h
    · exact h
theorem set_lt (l : List Int) : setOfL l < 2 ^ 64 := foldB_lt l 0 (by decide)
theorem set_elems {s : Nat} (h : s < 2 ^ 64) : setOfL ((elems s).map fun i : Nat => (i : Int)) = s := by
  refine same_bits (set_lt _) h fun j hj => ?_
  rw [set_bits _ j hj, Bool.eq_iff_iff, decide_eq_true_iff, List.mem_map]
  constructor
  · rintro ⟨i, hi, he⟩
    obtain rfl : i = j := by omega
    exact ((mem_elems s i).1 hi).2
  · intro hb
    exact ⟨j, (mem_elems s j).2 ⟨hj, hb⟩, rfl⟩

/-! ### The lowest bit -/
theorem low_form {s m : Nat} (hb : s.testBit m = true) (hl : ∀ j, j < m → s.testBit j = false) : s = 2 ^ (m + 1) * (s / 2 ^ (m + 1)) + 2 ^ m := by
  have h0 : s % 2 ^ m = 0 := by
    apply Nat.eq_of_testBit_eq
    intro j
    rw [Nat.testBit_mod_two_pow, Nat.zero_testBit]
    by_cases hj : j < m
    · simp [hl j hj]
    · simp [hj]
  have h1 : s % 2 ^ (m + 1) = 2 ^ m := by
    rw [Nat.pow_succ, Nat.mod_mul, h0, (bit_div s m).2 hb]
    omega
  have := Nat.div_add_mod s (2 ^ (m + 1))
  omega
/-- Taking one away and keeping what both have takes the lowest bit away. -/
theorem low_clear {s m : Nat} (hb : s.testBit m = true) (hl : ∀ j, j < m → s.testBit j = false) : s &&& (s - 1) = delB s m := by
  have hf := low_form hb hl
  generalize s / 2 ^ (m + 1) = r at hf
  have hp := Nat.two_pow_pos m
  have hs : s - 1 = 2 ^ (m + 1) * r + (2 ^ m - 1) := by omega
  have hz : (2 ^ m - 1).testBit m = false := Nat.testBit_lt_two_pow (by omega)
  apply Nat.eq_of_testBit_eq
  intro j
  rw [Nat.testBit_and, del_bit]
  rcases Nat.lt_trichotomy j m with hj | hj | hj
  · simp [hl j hj]
  · subst hj
    rw [hs, Nat.testBit_two_pow_mul_add _ (by rw [Nat.pow_succ]; omega), if_pos (by omega), hz]
    simp
  · have hne : ¬ m = j := by omega
    rw [hs, Nat.testBit_two_pow_mul_add _ (by rw [Nat.pow_succ]; omega), if_neg (by omega)]
    rw [hf, Nat.testBit_two_pow_mul_add _ (by rw [Nat.pow_succ]; omega), if_neg (by omega)]
    simp [hne]
theorem elems_low {s m : Nat} (hm : m < 64) (hb : s.testBit m = true) (hl : ∀ j, j < m → s.testBit j = false) : elems s = m :: elems (delB s m) := by
  refine (elems_eq ?_ fun i => ?_).symm
  · rw [List.pairwise_cons]
    refine ⟨fun i hi => ?_, elems_rise _⟩
    have h := (mem_elems _ _).1 hi
    rw [del_bit, Bool.and_eq_true] at h
    rcases Nat.lt_trichotomy i m with h1 | h1 | h1
    · rw [hl i h1] at h; simp at h
    · subst h1; simp at h
    · exact h1
  · rw [List.mem_cons, mem_elems, del_bit]
    by_cases him : i = m
    · subst him; simp [hm, hb]
    · simp [him, Ne.symm him]
theorem elems_zero : elems 0 = [] := by
  unfold elems
  rw [List.filter_eq_nil_iff]
  intro i _
  simp
theorem low_exists {s : Nat} (h : s < 2 ^ 64) (h0 : s ≠ 0) : ∃ m, m < 64 ∧ s.testBit m = true ∧ ∀ j, j < m → s.testBit j = false := by
  cases he : elems s with
  | nil =>
    refine absurd (same_bits h (by decide) fun j hj => ?_) h0
    rw [Nat.zero_testBit]
    cases hb : s.testBit j with
    | false => rfl
    | true =>
      have := (mem_elems s j).2 ⟨hj, hb⟩
      rw [he] at this
      cases this
  | cons m r =>
    have hm : m ∈ elems s := by rw [he]; simp
    have h1 := (mem_elems s m).1 hm
    refine ⟨m, h1.1, h1.2, fun j hj => ?_⟩
    cases hb : s.testBit j with
    | false => rfl
    | true =>
      have hj2 := (mem_elems s j).2 ⟨by omega, hb⟩
      have hr := elems_rise s
      rw [he] at hj2 hr
      rw [List.pairwise_cons] at hr
      rcases List.mem_cons.1 hj2 with e | hx
      · omega
      · have := hr.1 j hx; omega

/-! ### The word of one element -/
abbrev W64 (s : Nat) : Prop := s < 18446744073709551616
/-- The word of one element. -/
def one (i : Int) : Nat := if 0 ≤ i ∧ i < 64 then 2 ^ i.toNat else 0
theorem pow_lt64 {k : Nat} (h : k < 64) : 2 ^ k < 18446744073709551616 := by
  rw [show 18446744073709551616 = 2 ^ 64 by rfl]
  exact Nat.pow_lt_pow_right (by decide) h
theorem one_lt (i : Int) : W64 (one i) := by
  unfold one
  split
  · exact pow_lt64 (by omega)
  · decide
theorem one_bit (i : Int) (j : Nat) (hj : j < 64) : (one i).testBit j = decide (i = (j : Int)) := by
  unfold one
  split
  · next h =>
    rw [Nat.testBit_two_pow, Bool.eq_iff_iff, decide_eq_true_iff, decide_eq_true_iff]
    omega
  · next h =>
    rw [Nat.zero_testBit]
    exact (decide_eq_false (by omega)).symm
theorem or_lt {s t : Nat} (hs : W64 s) (ht : W64 t) : W64 (s ||| t) := Nat.or_lt_two_pow (n := 64) hs ht
end Go.Proofs.YtkhalnjgbdpfhaaGreat
namespace Go.Proofs.YtkhalnjgbdpfhaaGreat
open Go

theorem cmp_bytes : ∀ a b : List UInt8, Lib.compareBytes a b = cmpL a b
  | [], [] => rfl
  | [], _ :: _ => rfl
  | _ :: _, [] => rfl
  | a :: x, b :: y => by
    unfold Lib.compareBytes cmpL
    simp only [UInt8.lt_iff_toNat_lt]
    rw [cmp_bytes x y]

/-! ### The one list -/
def leN (ls : List (List UInt8)) (i j : Nat) : Bool := decide (cmpL (nameAt ls i) (nameAt ls j) ≤ 0)
/-- The indices of the names that begin with p, in the order of the names. -/
def secL (ls : List (List UInt8)) (p : List UInt8) : List Nat := ((List.range ls.length).filter fun i => beginsB p (nameAt ls i)).mergeSort (leN ls)
theorem name_at {ls : List (List UInt8)} {i : Nat} (h : i < ls.length) : ls[i]? = some (nameAt ls i) := by
  unfold nameAt
  rw [List.getD, List.getElem?_eq_getElem h]
  rfl
theorem name_diff {ls : List (List UInt8)} (h : Good5 ls) {i j : Nat} (hi : i < ls.length) (hj : j < ls.length) (he : nameAt ls i = nameAt ls j) : i = j :=
  good_diff h (name_at hi) (by rw [he]; exact name_at hj)
theorem rises_of {ls : List (List UInt8)} {o : List Nat} (hg : Good5 ls) (hl : ∀ i ∈ o, i < ls.length) (hn : o.Nodup) (hp : o.Pairwise fun i j => leN ls i j = true) : Rises ls o := by
  unfold Rises
  refine List.Pairwise.imp_of_mem ?_ (hp.and hn)
  intro i j hi hj h
  obtain ⟨h1, h2⟩ := h
  unfold leN at h1
  rw [decide_eq_true_iff, cmp_le] at h1
  rcases h1 with h1 | h1
  · exact h1
  · exact absurd (name_diff hg (hl i hi) (hl j hj) h1) h2
theorem leN_trans (ls : List (List UInt8)) (i j k : Nat) (h1 : leN ls i j = true) (h2 : leN ls j k = true) : leN ls i k = true := by
  unfold leN at *
  rw [decide_eq_true_iff] at *
  exact cmp_trans _ _ _ h1 h2
theorem leN_total (ls : List (List UInt8)) (i j : Nat) : (leN ls i j || leN ls j i) = true := by
  unfold leN
  rw [Bool.or_eq_true, decide_eq_true_iff, decide_eq_true_iff]
  have := cmp_neg (nameAt ls i) (nameAt ls j)
  omega
theorem section_of {ls : List (List UInt8)} (hg : Good5 ls) (p : List UInt8) (o : List Nat) (hp : o.Pairwise fun i j => leN ls i j = true) (hm : o.Perm ((List.range ls.length).filter fun i => beginsB p (nameAt ls i))) : Section ls p o := by
  have hmem : ∀ i, i ∈ o ↔ i < ls.length ∧ beginsB p (nameAt ls i) = true := by
    intro i
    rw [hm.mem_iff, List.mem_filter, List.mem_range]
  refine ⟨rises_of hg (fun i hi => ((hmem i).1 hi).1) ?_ hp, hmem⟩
  exact hm.symm.nodup (List.Pairwise.filter _ List.nodup_range)
theorem sec_section {ls : List (List UInt8)} (hg : Good5 ls) (p : List UInt8) : Section ls p (secL ls p) :=
  section_of hg p _ (List.pairwise_mergeSort (leN_trans ls) (leN_total ls) _) (List.mergeSort_perm _ _)
theorem sec_eq {ls : List (List UInt8)} (hg : Good5 ls) {p : List UInt8} {o : List Nat} (h : Section ls p o) : o = secL ls p := section_unique h (sec_section hg p)
theorem sec_perm (ls : List (List UInt8)) (p : List UInt8) : (secL ls p).Perm ((List.range ls.length).filter fun i => beginsB p (nameAt ls i)) := List.mergeSort_perm _ _
theorem sec_len (ls : List (List UInt8)) (p : List UInt8) : (secL ls p).length ≤ ls.length := by
  rw [(sec_perm ls p).length_eq]
  have := List.length_filter_le (fun i => beginsB p (nameAt ls i)) (List.range ls.length)
  rw [List.length_range] at this
  exact this
theorem sec_all (ls : List (List UInt8)) : (secL ls []).length = ls.length := by
  rw [(sec_perm ls []).length_eq, List.filter_eq_self.2 (fun i _ => begins_nil _), List.length_range]
theorem sec_lt {ls : List (List UInt8)} {p : List UInt8} {i : Nat} (h : i ∈ secL ls p) : i < ls.length := by
  rw [(sec_perm ls p).mem_iff, List.mem_filter, List.mem_range] at h
  exact h.1

/-! ### A longer string's part -/
theorem begins_between : ∀ (p x y z : List UInt8), beginsB p x = true → beginsB p z = true → ltL x y → ltL y z → beginsB p y = true
  | [], _, _, _, _, _, _, _ => rfl
  | c :: p, [], _, _, h, _, _, _ => by simp [beginsB] at h
  | c :: p, _ :: _, _, [], _, h, _, _ => by simp [beginsB] at h
  | c :: p, a :: x, [], _ :: _, _, _, h, _ => by simp [ltL, cmpL] at h
  | c :: p, a :: x, d :: y, b :: z, h1, h2, h3, h4 => by
    unfold beginsB at *
    simp only [List.isPrefixOf, Bool.and_eq_true, beq_iff_eq] at *
    obtain ⟨rfl, h1⟩ := h1
    obtain ⟨rfl, h2⟩ := h2
    rw [lt_cons] at h3 h4
    rcases h3 with h3 | ⟨h3, k3⟩
    · rcases h4 with h4 | ⟨h4, k4⟩ <;> omega
    · rcases h4 with h4 | ⟨h4, k4⟩
      · omega
      · exact ⟨UInt8.toNat_inj.1 h3, begins_between p x y z h1 h2 k3 k4⟩
theorem begins_app : ∀ (p q x : List UInt8), beginsB (p ++ q) x = true → beginsB p x = true
  | [], _, _, _ => rfl
  | c :: p, q, [], h => by simp [beginsB] at h
  | c :: p, q, a :: x, h => by
    unfold beginsB at *
    simp only [List.cons_append, List.isPrefixOf, Bool.and_eq_true, beq_iff_eq] at *
    exact ⟨h.1, begins_app p q x h.2⟩
theorem filter_head {α : Type} (P : α → Bool) : ∀ r : List α, r.Pairwise (fun y z => P y = false → P z = false) → (r.filter P).length ≤ r.length ∧ r.take (r.filter P).length = r.filter P
  | [], _ => ⟨Nat.le_refl _, rfl⟩
  | x :: r, h => by
    rw [List.pairwise_cons] at h
    have ih := filter_head P r h.2
    cases hx : P x with
    | true =>
      rw [List.filter_cons_of_pos hx]
      exact ⟨by simpa using ih.1, by rw [List.length_cons, List.take_succ_cons, ih.2]⟩
    | false =>
      rw [List.filter_cons_of_neg (by simp [hx])]
      have : r.filter P = [] := List.filter_eq_nil_iff.2 fun z hz => by rw [h.1 z hz hx]; simp
      rw [this]
      exact ⟨Nat.zero_le _, rfl⟩
theorem filter_run {α : Type} (R : α → α → Prop) (P : α → Bool) (hc : ∀ x y z, R x y → R y z → P x = true → P z = true → P y = true) : ∀ a : List α, a.Pairwise R → ∃ i, i + (a.filter P).length ≤ a.length ∧ (a.drop i).take (a.filter P).length = a.filter P
  | [], _ => ⟨0, Nat.le_refl _, rfl⟩
  | x :: r, h => by
    have h0 := h
    rw [List.pairwise_cons] at h
    cases hx : P x with
    | false =>
      rw [List.filter_cons_of_neg (by simp [hx])]
      obtain ⟨i, h1, h2⟩ := filter_run R P hc r h.2
      exact ⟨i + 1, by rw [List.length_cons]; omega, by rw [List.drop_succ_cons]; exact h2⟩
    | true =>
      have hp : (x :: r).Pairwise fun y z => P y = false → P z = false := by
        rw [List.pairwise_cons]
        refine ⟨fun z _ hxf => absurd hxf (by rw [hx]; simp), ?_⟩
        refine List.Pairwise.imp_of_mem ?_ h.2
        intro y z hy hz hyz hyf
        cases hzt : P z with
        | false => rfl
        | true =>
          have := hc x y z (h.1 y hy) hyz hx hzt
          rw [hyf] at this
          cases this
      have := filter_head P (x :: r) hp
      exact ⟨0, by omega, by rw [List.drop_zero]; exact this.2⟩
/-- The indices of a longer string stand next to one another among those of a shorter one. -/
theorem sec_run {ls : List (List UInt8)} (hg : Good5 ls) (p q : List UInt8) : ∃ i, i + (secL ls (p ++ q)).length ≤ (secL ls p).length ∧ ((secL ls p).drop i).take (secL ls (p ++ q)).length = secL ls (p ++ q) := by
  have hs := sec_section hg p
  have hf : (secL ls p).filter (fun i => beginsB (p ++ q) (nameAt ls i)) = secL ls (p ++ q) := by
    refine sec_eq hg ⟨?_, fun i => ?_⟩
    · exact List.Pairwise.filter _ hs.1
    · rw [List.mem_filter, hs.2]
      constructor
      · rintro ⟨⟨h1, _⟩, h2⟩
        exact ⟨h1, h2⟩
      · rintro ⟨h1, h2⟩
        exact ⟨⟨h1, begins_app p q _ h2⟩, h2⟩
  rw [← hf]
  exact filter_run (fun i j => ltL (nameAt ls i) (nameAt ls j)) _ (fun x y z h1 h2 h3 h4 => begins_between _ _ _ _ h3 h4 h1 h2) _ hs.1
/-- Prefixes told by a part. -/
theorem begins_iff : ∀ p x : List UInt8, beginsB p x = (decide (p.length ≤ x.length) && decide (x.take p.length = p))
  | [], x => by simp [beginsB]
  | c :: p, [] => by simp [beginsB]
  | c :: p, a :: x => by
    have := begins_iff p x
    unfold beginsB at *
    simp only [List.isPrefixOf, this, List.length_cons, Nat.add_le_add_iff_right, List.take_succ_cons, List.cons.injEq]
    by_cases h : c = a
    · subst h; simp
    · have h2 : ¬ a = c := fun e => h e.symm
      simp [h, h2]
end Go.Proofs.YtkhalnjgbdpfhaaGreat
namespace Go.Proofs.YtkhalnjgbdpfhaaGreat
open Go

theorem and_cut (a b c d : Nat) (ha : a < 256) (hc : c < 256) : (a + 256 * b) &&& (c + 256 * d) = (a &&& c) + 256 * (b &&& d) := by
  have h := (Nat.mod_add_div ((a + 256 * b) &&& (c + 256 * d)) (2 ^ 8)).symm
  rw [Nat.and_mod_two_pow, Nat.and_div_two_pow] at h
  rw [show (a + 256 * b) % 2 ^ 8 = a by omega, show (c + 256 * d) % 2 ^ 8 = c by omega, show (a + 256 * b) / 2 ^ 8 = b by omega, show (c + 256 * d) / 2 ^ 8 = d by omega] at h
  exact h
/-- A byte, n times. -/
def rowK (c : Nat) : Nat → Nat
  | 0 => 0
  | n + 1 => c + 256 * rowK c n
/-- A function of bytes at the n lowest bytes. -/
def rowW (f : Nat → Nat) : Nat → Nat → Nat
  | 0, _ => 0
  | n + 1, x => f (x % 256) + 256 * rowW f n (x / 256)
def pop1 (d : Nat) : Nat := (d / 2 &&& 85) + (d &&& 85)
def pop2 (d : Nat) : Nat := (d / 4 &&& 51) + (d &&& 51)
def pop3 (d : Nat) : Nat := (d / 16 + d) % 16
theorem low1 : ∀ y : Fin 512, (y.val / 2 % 256 &&& 85) = (y.val % 256 / 2 &&& 85) := by decide +kernel
theorem low2 : ∀ y : Fin 1024, (y.val / 4 % 256 &&& 51) = (y.val % 256 / 4 &&& 51) := by decide +kernel
theorem row1 : ∀ n x : Nat, (x / 2 &&& rowK 85 n) + (x &&& rowK 85 n) = rowW pop1 n x
  | 0, x => by simp [rowK, rowW]
  | n + 1, x => by
    have e1 := and_cut (x / 2 % 256) (x / 256 / 2) 85 (rowK 85 n) (by omega) (by omega)
    have e2 := and_cut (x % 256) (x / 256) 85 (rowK 85 n) (by omega) (by omega)
    have e3 := low1 ⟨x % 512, by omega⟩
    rw [show x / 2 % 256 + 256 * (x / 256 / 2) = x / 2 by omega] at e1
    rw [show x % 256 + 256 * (x / 256) = x by omega] at e2
    simp only at e3
    rw [show x % 512 / 2 % 256 = x / 2 % 256 by omega, show x % 512 % 256 = x % 256 by omega] at e3
    have := row1 n (x / 256)
    have k : rowK 85 (n + 1) = 85 + 256 * rowK 85 n := rfl
    have r : rowW pop1 (n + 1) x = ((x % 256) / 2 &&& 85) + (x % 256 &&& 85) + 256 * rowW pop1 n (x / 256) := rfl
    rw [k, r, e1, e2, e3]
    omega
theorem row2 : ∀ n x : Nat, (x / 4 &&& rowK 51 n) + (x &&& rowK 51 n) = rowW pop2 n x
  | 0, x => by simp [rowK, rowW]
  | n + 1, x => by
    have e1 := and_cut (x / 4 % 256) (x / 256 / 4) 51 (rowK 51 n) (by omega) (by omega)
    have e2 := and_cut (x % 256) (x / 256) 51 (rowK 51 n) (by omega) (by omega)
    have e3 := low2 ⟨x % 1024, by omega⟩
    rw [show x / 4 % 256 + 256 * (x / 256 / 4) = x / 4 by omega] at e1
    rw [show x % 256 + 256 * (x / 256) = x by omega] at e2
    simp only at e3
    rw [show x % 1024 / 4 % 256 = x / 4 % 256 by omega, show x % 1024 % 256 = x % 256 by omega] at e3
    have := row2 n (x / 256)
    have k : rowK 51 (n + 1) = 51 + 256 * rowK 51 n := rfl
    have r : rowW pop2 (n + 1) x = ((x % 256) / 4 &&& 51) + (x % 256 &&& 51) + 256 * rowW pop2 n (x / 256) := rfl
    rw [k, r, e1, e2, e3]
    omega
theorem row_lt {f : Nat → Nat} (h : ∀ d, d < 256 → f d < 256) : ∀ n x : Nat, rowW f n x < 256 ^ n
  | 0, _ => by simp [rowW]
  | n + 1, x => by
    have h1 := h (x % 256) (by omega)
    have h2 := row_lt h n (x / 256)
    unfold rowW
    rw [Nat.pow_succ]
    omega
theorem row_row {f g : Nat → Nat} (h : ∀ d, d < 256 → g d < 256) : ∀ n x : Nat, rowW f n (rowW g n x) = rowW (fun d => f (g d)) n x
  | 0, _ => rfl
  | n + 1, x => by
    have h1 := h (x % 256) (by omega)
    have e : rowW g (n + 1) x = g (x % 256) + 256 * rowW g n (x / 256) := rfl
    have e2 : rowW f (n + 1) (rowW g (n + 1) x) = f (rowW g (n + 1) x % 256) + 256 * rowW f n (rowW g (n + 1) x / 256) := rfl
    have e3 : rowW (fun d => f (g d)) (n + 1) x = f (g (x % 256)) + 256 * rowW (fun d => f (g d)) n (x / 256) := rfl
    rw [e2, e3, e, show (g (x % 256) + 256 * rowW g n (x / 256)) % 256 = g (x % 256) by omega, show (g (x % 256) + 256 * rowW g n (x / 256)) / 256 = rowW g n (x / 256) by omega, row_row h n]
theorem row3 {g : Nat → Nat} (h : ∀ d, d < 256 → g d / 16 ≤ 4 ∧ g d % 16 ≤ 4) : ∀ n x : Nat, (rowW g n x / 16 + rowW g n x) &&& rowK 15 n = rowW (fun d => pop3 (g d)) n x
  | 0, _ => by simp [rowK, rowW]
  | n + 1, x => by
    have h1 := h (x % 256) (by omega)
    have e : rowW g (n + 1) x = g (x % 256) + 256 * rowW g n (x / 256) := rfl
    have e3 : rowW (fun d => pop3 (g d)) (n + 1) x = pop3 (g (x % 256)) + 256 * rowW (fun d => pop3 (g d)) n (x / 256) := rfl
    have hr : rowW g n (x / 256) % 16 ≤ 4 := by
      cases n with
      | zero => simp [rowW]
      | succ n =>
        have e4 : rowW g (n + 1) (x / 256) = g (x / 256 % 256) + 256 * rowW g n (x / 256 / 256) := rfl
        have := h (x / 256 % 256) (by omega)
        rw [e4]
        omega
    have hi := row3 h n (x / 256)
    rw [e, e3, ← hi]
    generalize rowW g n (x / 256) = r at hr
    unfold pop3
    generalize g (x % 256) = d at h1
    have hc := and_cut (d / 16 + d + 16 * (r % 16)) (r / 16 + r) 15 (rowK 15 n) (by omega) (by omega)
    rw [show (d + 256 * r) / 16 + (d + 256 * r) = d / 16 + d + 16 * (r % 16) + 256 * (r / 16 + r) by omega]
    show _ &&& (15 + 256 * rowK 15 n) = _
    rw [hc, Nat.and_two_pow_sub_one_eq_mod _ 4]
    omega
theorem pop_small : ∀ d : Fin 256, pop1 d.val < 256 ∧ pop2 (pop1 d.val) / 16 ≤ 4 ∧ pop2 (pop1 d.val) % 16 ≤ 4 := by decide +kernel

/-! ### Counting one by one -/
def cntB : Nat → Nat → Nat
  | 0, _ => 0
  | n + 1, x => cntB n x + x / 2 ^ n % 2
theorem cnt_filter (x : Nat) : ∀ n, ((List.range n).filter fun i => x.testBit i).length = cntB n x
  | 0 => rfl
  | n + 1 => by
    rw [List.range_succ, List.filter_append, List.length_append, cnt_filter x n]
    have e : cntB (n + 1) x = cntB n x + x / 2 ^ n % 2 := rfl
    rw [e]
    have := bit_div x n
    cases h : x.testBit n with
    | false => rw [h] at this; simp at this; simp [h]; omega
    | true => rw [h] at this; simp at this; simp [h]; omega
theorem cnt_add (a x : Nat) : ∀ b, cntB (a + b) x = cntB a x + cntB b (x / 2 ^ a)
  | 0 => rfl
  | b + 1 => by
    have e : cntB (a + (b + 1)) x = cntB (a + b) x + x / 2 ^ (a + b) % 2 := rfl
    have e2 : cntB (b + 1) (x / 2 ^ a) = cntB b (x / 2 ^ a) + x / 2 ^ a / 2 ^ b % 2 := rfl
    rw [e, e2, cnt_add a x b, Nat.div_div_eq_div_mul, Nat.pow_add]
    omega
theorem cnt_low (x : Nat) : cntB 8 x = cntB 8 (x % 256) := by
  simp only [cntB]
  omega
theorem pop_cnt : ∀ d : Fin 256, pop3 (pop2 (pop1 d.val)) = cntB 8 d.val := by decide +kernel
theorem cntB_le : ∀ d : Fin 256, cntB 8 d.val ≤ 8 := by decide +kernel
/-- The sum of the bytes. -/
def sumW (f : Nat → Nat) : Nat → Nat → Nat
  | 0, _ => 0
  | n + 1, x => f (x % 256) + sumW f n (x / 256)
theorem cnt_sum : ∀ n x : Nat, cntB (8 * n) x = sumW (cntB 8) n x
  | 0, _ => rfl
  | n + 1, x => by
    rw [show 8 * (n + 1) = 8 + 8 * n by omega, cnt_add, cnt_low, cnt_sum n]
    rfl
/-- A number by its bytes, the lowest first. -/
def numB : List Nat → Nat
  | [] => 0
  | a :: l => a + 256 * numB l
def zipB : List Nat → List Nat → List Nat
  | [], m => m
  | a :: l, [] => a :: l
  | a :: l, b :: m => (a + b) :: zipB l m
theorem num_add : ∀ l m, numB l + numB m = numB (zipB l m)
  | [], m => by simp [numB, zipB]
  | a :: l, [] => by simp [numB, zipB]
  | a :: l, b :: m => by
    have := num_add l m
    simp only [numB, zipB]
    omega
theorem num_lt : ∀ (l : List Nat), (∀ d ∈ l, d < 256) → numB l < 256 ^ l.length
  | [], _ => by simp [numB]
  | a :: l, h => by
    have h1 := h a (by simp)
    have h2 := num_lt l fun d hd => h d (List.mem_cons_of_mem _ hd)
    simp only [numB, List.length_cons, Nat.pow_succ]
    omega
theorem num_div : ∀ (n : Nat) (l : List Nat), (∀ d ∈ l, d < 256) → numB l / 256 ^ n = numB (l.drop n)
  | 0, l, _ => by simp
  | n + 1, [], _ => by simp [numB]
  | n + 1, a :: l, h => by
    have h1 := h a (by simp)
    have h2 := num_div n l fun d hd => h d (List.mem_cons_of_mem _ hd)
    rw [List.drop_succ_cons, ← h2, Nat.pow_succ, Nat.mul_comm, ← Nat.div_div_eq_div_mul]
    congr 1
    simp only [numB]
    omega
theorem lits8 {a b c d e f g h : Nat} : 256 ^ [a, b, c, d, e, f, g, h].length = 18446744073709551616 := by simp
theorem eight {p : Nat → Prop} {a b c d e f g h : Nat} (h0 : p a) (h1 : p b) (h2 : p c) (h3 : p d) (h4 : p e) (h5 : p f) (h6 : p g) (h7 : p h) : ∀ x ∈ [a, b, c, d, e, f, g, h], p x := by
  intro x hx
  simp only [List.mem_cons, List.not_mem_nil, or_false] at hx
  rcases hx with rfl | rfl | rfl | rfl | rfl | rfl | rfl | rfl <;> assumption
/-- The bytes added up by three shifts. -/
theorem sum_bytes {f : Nat → Nat} (h : ∀ d, d < 256 → f d ≤ 8) (x y : Nat) (hy : y = rowW f 8 x) :
    y < 18446744073709551616 ∧ y + y / 256 < 18446744073709551616 ∧ y + y / 256 + (y + y / 256) / 65536 < 18446744073709551616 ∧
    y + y / 256 + (y + y / 256) / 65536 + (y + y / 256 + (y + y / 256) / 65536) / 4294967296 < 9223372036854775808 ∧
    (y + y / 256 + (y + y / 256) / 65536 + (y + y / 256 + (y + y / 256) / 65536) / 4294967296) % 128 = sumW f 8 x := by
  simp only [rowW, sumW] at *
  have h0 := h (x % 256) (by omega)
  have h1 := h (x / 256 % 256) (by omega)
  have h2 := h (x / 256 / 256 % 256) (by omega)
  have h3 := h (x / 256 / 256 / 256 % 256) (by omega)
  have h4 := h (x / 256 / 256 / 256 / 256 % 256) (by omega)
  have h5 := h (x / 256 / 256 / 256 / 256 / 256 % 256) (by omega)
  have h6 := h (x / 256 / 256 / 256 / 256 / 256 / 256 % 256) (by omega)
  have h7 := h (x / 256 / 256 / 256 / 256 / 256 / 256 / 256 % 256) (by omega)
  generalize f (x % 256) = p0 at *
  generalize f (x / 256 % 256) = p1 at *
  generalize f (x / 256 / 256 % 256) = p2 at *
  generalize f (x / 256 / 256 / 256 % 256) = p3 at *
  generalize f (x / 256 / 256 / 256 / 256 % 256) = p4 at *
  generalize f (x / 256 / 256 / 256 / 256 / 256 % 256) = p5 at *
  generalize f (x / 256 / 256 / 256 / 256 / 256 / 256 % 256) = p6 at *
  generalize f (x / 256 / 256 / 256 / 256 / 256 / 256 / 256 % 256) = p7 at *
  clear h
  have e0 : y = numB [p0, p1, p2, p3, p4, p5, p6, p7] := hy
  clear hy
  have l0 := eight (p := (· < 256)) (show p0 < 256 by omega) (show p1 < 256 by omega) (show p2 < 256 by omega) (show p3 < 256 by omega) (show p4 < 256 by omega) (show p5 < 256 by omega) (show p6 < 256 by omega) (show p7 < 256 by omega)
  have d0 := num_div 1 _ l0
  rw [← e0] at d0
  have e1 := num_add [p0, p1, p2, p3, p4, p5, p6, p7] [p1, p2, p3, p4, p5, p6, p7]
  have l1 := eight (p := (· < 256)) (show p0 + p1 < 256 by omega) (show p1 + p2 < 256 by omega) (show p2 + p3 < 256 by omega) (show p3 + p4 < 256 by omega) (show p4 + p5 < 256 by omega) (show p5 + p6 < 256 by omega) (show p6 + p7 < 256 by omega) (show p7 < 256 by omega)
  have d1 := num_div 2 _ l1
  have e2 := num_add [p0 + p1, p1 + p2, p2 + p3, p3 + p4, p4 + p5, p5 + p6, p6 + p7, p7] [p2 + p3, p3 + p4, p4 + p5, p5 + p6, p6 + p7, p7]
  have l2 := eight (p := (· < 256)) (show p0 + p1 + (p2 + p3) < 256 by omega) (show p1 + p2 + (p3 + p4) < 256 by omega) (show p2 + p3 + (p4 + p5) < 256 by omega) (show p3 + p4 + (p5 + p6) < 256 by omega) (show p4 + p5 + (p6 + p7) < 256 by omega) (show p5 + p6 + p7 < 256 by omega) (show p6 + p7 < 256 by omega) (show p7 < 256 by omega)
  have d2 := num_div 4 _ l2
  have e3 := num_add [p0 + p1 + (p2 + p3), p1 + p2 + (p3 + p4), p2 + p3 + (p4 + p5), p3 + p4 + (p5 + p6), p4 + p5 + (p6 + p7), p5 + p6 + p7, p6 + p7, p7] [p4 + p5 + (p6 + p7), p5 + p6 + p7, p6 + p7, p7]
  have l3 := eight (p := (· < 128)) (show p0 + p1 + (p2 + p3) + (p4 + p5 + (p6 + p7)) < 128 by omega) (show p1 + p2 + (p3 + p4) + (p5 + p6 + p7) < 128 by omega) (show p2 + p3 + (p4 + p5) + (p6 + p7) < 128 by omega) (show p3 + p4 + (p5 + p6) + p7 < 128 by omega) (show p4 + p5 + (p6 + p7) < 128 by omega) (show p5 + p6 + p7 < 128 by omega) (show p6 + p7 < 128 by omega) (show p7 < 128 by omega)
  simp only [zipB, List.drop_succ_cons, List.drop_zero] at e1 e2 e3 d0 d1 d2
  have b0 := num_lt _ l0
  have b1 := num_lt _ l1
  have b2 := num_lt _ l2
  have b3 : numB [p0 + p1 + (p2 + p3) + (p4 + p5 + (p6 + p7)), p1 + p2 + (p3 + p4) + (p5 + p6 + p7), p2 + p3 + (p4 + p5) + (p6 + p7), p3 + p4 + (p5 + p6) + p7, p4 + p5 + (p6 + p7), p5 + p6 + p7, p6 + p7, p7] < 9223372036854775808 := by
    clear e1 e2 e3 d0 d1 d2 e0 b0 b1 b2 l0 l1 l2 l3
    simp only [numB]
    omega
  rw [← e0] at e1 b0
  rw [← d0, show (256 : Nat) ^ 1 = 256 by rfl] at e1
  rw [← e1] at d1 e2 b1
  rw [← d1, show (256 : Nat) ^ 2 = 65536 by rfl] at e2
  rw [← e2] at d2 e3 b2
  rw [← d2, show (256 : Nat) ^ 4 = 4294967296 by rfl] at e3
  rw [lits8] at b0 b1 b2
  refine ⟨b0, b1, b2, ?_, ?_⟩
  · rw [e3]; exact b3
  · rw [e3]
    show (_ + 256 * _) % 128 = _
    rw [show (256 : Nat) = 128 * 2 by rfl, Nat.mul_assoc, Nat.add_mul_mod_self_left, Nat.mod_eq_of_lt (l3 _ (by simp))]
    omega
theorem row_same {f g : Nat → Nat} (h : ∀ d, d < 256 → f d = g d) : ∀ n x : Nat, rowW f n x = rowW g n x
  | 0, _ => rfl
  | n + 1, x => by
    unfold rowW
    rw [h _ (by omega), row_same h n]
/-- The number of bits, added up in parallel: no sum on the way passes 2^64, and the last seven bits of the last sum are the number of the elements. -/
theorem pop_all (x a b y : Nat) (ha : a = (x / 2 &&& 6148914691236517205) + (x &&& 6148914691236517205)) (hb : b = (a / 4 &&& 3689348814741910323) + (a &&& 3689348814741910323)) (hy : y = (b / 16 + b) &&& 1085102592571150095) :
    a < 18446744073709551616 ∧ b < 18446744073709551616 ∧ b / 16 + b < 18446744073709551616 ∧ y < 18446744073709551616 ∧ y + y / 256 < 18446744073709551616 ∧ y + y / 256 + (y + y / 256) / 65536 < 18446744073709551616 ∧
    y + y / 256 + (y + y / 256) / 65536 + (y + y / 256 + (y + y / 256) / 65536) / 4294967296 < 9223372036854775808 ∧
    (y + y / 256 + (y + y / 256) / 65536 + (y + y / 256 + (y + y / 256) / 65536) / 4294967296) % 128 = (elems x).length := by
  have k1 : rowK 85 8 = 6148914691236517205 := by decide
  have k2 : rowK 51 8 = 3689348814741910323 := by decide
  have k3 : rowK 15 8 = 1085102592571150095 := by decide
  rw [← k1, row1] at ha
  rw [← k2, row2, ha, row_row (fun d hd => (pop_small ⟨d, hd⟩).1)] at hb
  rw [← k3, hb, row3 (fun d hd => (pop_small ⟨d, hd⟩).2)] at hy
  rw [row_same (g := cntB 8) (fun d hd => pop_cnt ⟨d, hd⟩)] at hy
  have hs := sum_bytes (f := cntB 8) (fun d hd => cntB_le ⟨d, hd⟩) x y hy
  have ha2 := row_lt (f := pop1) (fun d hd => (pop_small ⟨d, hd⟩).1) 8 x
  have hb2 := row_lt (f := fun d => pop2 (pop1 d)) (fun d hd => by have := (pop_small ⟨d, hd⟩).2; simp only at this ⊢; omega) 8 x
  have hb3 : b / 16 + b < 18446744073709551616 := by
    have : b ≤ 4919131752989213764 := by
      rw [hb]
      have hd : ∀ n y : Nat, 255 * rowW (fun d => pop2 (pop1 d)) n y + 68 ≤ 68 * 256 ^ n := by
        intro n
        induction n with
        | zero => intro y; simp [rowW]
        | succ n ih =>
          intro y
          have := ih (y / 256)
          have h2 := (pop_small ⟨y % 256, by omega⟩).2
          simp only at h2
          simp only [rowW, Nat.pow_succ]
          omega
      have := hd 8 x
      omega
    omega
  rw [show ((elems x).length = cntB 64 x) from cnt_filter x 64, show (64 : Nat) = 8 * 8 by rfl, cnt_sum]
  exact ⟨by rw [ha]; omega, by rw [hb]; omega, hb3, hs.1, hs.2.1, hs.2.2.1, hs.2.2.2.1, hs.2.2.2.2⟩
end Go.Proofs.YtkhalnjgbdpfhaaGreat
namespace Go.Proofs.YtkhalnjgbdpfhaaGreat
open Go

/-! ### The first bad one of a list -/
section
variable {κ α : Type}
/-- The first bad one from here on, behind those with these keys. -/
def fbF (bad : List κ → α → Int) (key : α → κ) (seen : List κ) (k : Nat) : List α → Int × Int
  | [] => (0, 0)
  | x :: r => if bad seen x = 0 then fbF bad key (seen ++ [key x]) (k + 1) r else ((k : Int), bad seen x)
variable {bad : List κ → α → Int} {key : α → κ}
theorem key_take {l : List α} {k : Nat} {x : α} (h : l[k]? = some x) : (l.take (k + 1)).map key = (l.take k).map key ++ [key x] := by
  rw [take_at l k x h, List.map_append]
  rfl
theorem fb_next {l : List α} {k : Nat} {x : α} {q : Int × Int} (hr : q = fbF bad key ((l.take k).map key) k (l.drop k)) (h : l[k]? = some x) (hb : bad ((l.take k).map key) x = 0) : q = fbF bad key ((l.take (k + 1)).map key) (k + 1) (l.drop (k + 1)) := by
  rw [hr, drop_at l k x h, key_take h]
  conv => lhs; unfold fbF
  rw [if_pos hb]
theorem fb_stop {l : List α} {k : Nat} {x : α} {q : Int × Int} (hr : q = fbF bad key ((l.take k).map key) k (l.drop k)) (h : l[k]? = some x) {e : Int} (hb : bad ((l.take k).map key) x = e) (he : e ≠ 0) : q = ((k : Int), e) := by
  rw [hr, drop_at l k x h]
  unfold fbF
  rw [if_neg (by rw [hb]; exact he), hb]
theorem fb_done {l : List α} {k : Nat} {q : Int × Int} (hr : q = fbF bad key ((l.take k).map key) k (l.drop k)) (h : l.length ≤ k) : q = (0, 0) := by
  rw [hr, List.drop_of_length_le h]
  rfl
theorem keys_mem {l : List α} {c : κ} : c ∈ l.map key ↔ ∃ (j : Nat) (x : α), l[j]? = some x ∧ key x = c := by
  rw [List.mem_map]
  constructor
  · rintro ⟨x, hx, rfl⟩
    obtain ⟨j, hj⟩ := List.mem_iff_getElem?.1 hx
    exact ⟨j, x, hj, rfl⟩
  · rintro ⟨j, x, hx, rfl⟩
    exact ⟨x, List.mem_iff_getElem?.2 ⟨j, hx⟩, rfl⟩
theorem keys_take {l : List α} {c : κ} {k : Nat} : c ∈ (l.take k).map key ↔ ∃ (j : Nat) (x : α), j < k ∧ l[j]? = some x ∧ key x = c := by
  rw [keys_mem]
  constructor
  · rintro ⟨j, x, hx, h⟩
    rw [List.getElem?_take] at hx
    split at hx
    · next hj => exact ⟨j, x, hj, hx, h⟩
    · cases hx
  · rintro ⟨j, x, hj, hx, h⟩
    exact ⟨j, x, by rw [List.getElem?_take, if_pos hj]; exact hx, h⟩
theorem keys_hit {l : List α} {c : κ} {k j : Nat} {x : α} (hj : j < k) (hx : l[j]? = some x) (h : key x = c) : c ∈ (l.take k).map key := keys_take.2 ⟨j, x, hj, hx, h⟩
theorem keys_none {l : List α} {c : κ} {k : Nat} (h : ∀ (j : Nat) (x : α), j < k → l[j]? = some x → key x ≠ c) : c ∉ (l.take k).map key := fun hm => by
  obtain ⟨j, x, hj, hx, hc⟩ := keys_take.1 hm
  exact h j x hj hx hc
end

/-! ### The first with a property -/
section
variable {α : Type}
/-- The index of the first with the property from here on, or -1. -/
def fdF (p : α → Bool) (k : Nat) : List α → Int
  | [] => -1
  | x :: r => if p x then (k : Int) else fdF p (k + 1) r
/-- The index of the first with the property, or -1. -/
def fdT (p : α → Bool) (l : List α) : Int := fdF p 0 l
variable {p : α → Bool}
theorem fd_start (l : List α) : fdT p l = fdF p 0 (l.drop 0) := rfl
theorem fd_hit {q : Int} {l : List α} {k : Nat} {x : α} (hr : q = fdF p k (l.drop k)) (h : l[k]? = some x) (hp : p x = true) : q = (k : Int) := by
  rw [hr, drop_at l k x h]
  unfold fdF
  rw [if_pos hp]
theorem fd_miss {q : Int} {l : List α} {k : Nat} {x : α} (hr : q = fdF p k (l.drop k)) (h : l[k]? = some x) (hp : p x = false) : q = fdF p (k + 1) (l.drop (k + 1)) := by
  rw [hr, drop_at l k x h]
  conv => lhs; unfold fdF
  rw [if_neg (by rw [hp]; simp)]
theorem fd_end {q : Int} {l : List α} {k : Nat} (hr : q = fdF p k (l.drop k)) (h : l.length ≤ k) : q = -1 := by
  rw [hr, List.drop_of_length_le h]
  rfl
theorem fdF_range (p : α → Bool) : ∀ (l : List α) (k : Nat), fdF p k l = -1 ∨ ((k : Int) ≤ fdF p k l ∧ fdF p k l < ((k + l.length : Nat) : Int))
  | [], _ => .inl rfl
  | x :: r, k => by
    unfold fdF
    split
    · exact .inr ⟨Int.le_refl _, by simp; omega⟩
    · rcases fdF_range p r (k + 1) with h | ⟨h1, h2⟩
      · exact .inl h
      · exact .inr ⟨by omega, by simp only [List.length_cons]; omega⟩
theorem fd_range (p : α → Bool) (l : List α) : fdT p l = -1 ∨ (0 ≤ fdT p l ∧ fdT p l < (l.length : Int)) := by
  have := fdF_range p l 0
  rw [Nat.zero_add] at this
  exact this
theorem fdF_mem (p : α → Bool) : ∀ (l : List α) (k : Nat), fdF p k l ≠ -1 → ∃ (j : Nat) (x : α), l[j]? = some x ∧ p x = true ∧ fdF p k l = ((k + j : Nat) : Int)
  | [], _, h => absurd rfl h
  | y :: r, k, h => by
    unfold fdF at h ⊢
    by_cases hp : p y = true
    · rw [if_pos hp]
      exact ⟨0, y, rfl, hp, rfl⟩
    · rw [if_neg hp] at h ⊢
      obtain ⟨j, x, h1, h2, h3⟩ := fdF_mem p r (k + 1) h
      exact ⟨j + 1, x, h1, h2, by rw [h3]; congr 1; omega⟩
theorem fd_mem {p : α → Bool} {l : List α} (h : fdT p l ≠ -1) : ∃ (j : Nat) (x : α), l[j]? = some x ∧ p x = true ∧ fdT p l = (j : Int) := by
  obtain ⟨j, x, h1, h2, h3⟩ := fdF_mem p l 0 h
  exact ⟨j, x, h1, h2, by rw [Nat.zero_add] at h3; exact h3⟩

/-! ### The indices of all with a property -/
def ixF (p : α → Bool) (k : Nat) : List α → List Int
  | [] => []
  | x :: r => if p x then (k : Int) :: ixF p (k + 1) r else ixF p (k + 1) r
/-- The indices of those with the property, in order. -/
def ixs (p : α → Bool) (l : List α) : List Int := ixF p 0 l
theorem ixF_app (p : α → Bool) : ∀ (l : List α) (k : Nat) (x : α), ixF p k (l ++ [x]) = ixF p k l ++ if p x then [((k + l.length : Nat) : Int)] else []
  | [], k, x => by
    show ixF p k [x] = _
    simp only [ixF, List.length_nil, Nat.add_zero, List.nil_append]
  | y :: r, k, x => by
    rw [List.cons_append]
    have e : k + 1 + r.length = k + (y :: r).length := by rw [List.length_cons]; omega
    unfold ixF
    rw [ixF_app p r (k + 1) x, e]
    split <;> simp
theorem ix_hit {l : List α} {k : Nat} {x : α} (h : l[k]? = some x) (hp : p x = true) : ixs p (l.take (k + 1)) = ixs p (l.take k) ++ [(k : Int)] := by
  unfold ixs
  have hk := (List.getElem?_eq_some_iff.1 h).1
  rw [take_at l k x h, ixF_app, if_pos hp, List.length_take, Nat.min_eq_left (by omega), Nat.zero_add]
theorem ix_miss {l : List α} {k : Nat} {x : α} (h : l[k]? = some x) (hp : p x = false) : ixs p (l.take (k + 1)) = ixs p (l.take k) := by
  unfold ixs
  rw [take_at l k x h, ixF_app, if_neg (by rw [hp]; simp), List.append_nil]
theorem ixF_le (p : α → Bool) : ∀ (l : List α) (k : Nat), (ixF p k l).length ≤ l.length
  | [], _ => Nat.le_refl _
  | y :: r, k => by
    have := ixF_le p r (k + 1)
    unfold ixF
    split <;> simp only [List.length_cons] <;> omega
theorem ix_le (p : α → Bool) (l : List α) : (ixs p l).length ≤ l.length := ixF_le p l 0
/-- Whether the one at an index has the property. -/
def hasAt (p : α → Bool) (l : List α) (i : Int) : Bool := match l[i.toNat]? with | some x => p x | none => false
theorem ixF_part {p q : α → Bool} (hpq : ∀ x, p x = true → q x = true) (l : List α) : ∀ (r : List α) (k : Nat), l.drop k = r → ixF p k r = (ixF q k r).filter (hasAt p l)
  | [], _, _ => rfl
  | y :: r, k, h => by
    have hy : l[k]? = some y := by
      have h0 : (l.drop k)[0]? = some y := by rw [h]; rfl
      rw [List.getElem?_drop] at h0
      exact h0
    have hr : l.drop (k + 1) = r := by
      rw [drop_at l k y hy] at h
      exact (List.cons.inj h).2
    have ha : hasAt p l (k : Int) = p y := by unfold hasAt; rw [Int.toNat_natCast, hy]
    have ih := ixF_part hpq l r (k + 1) hr
    unfold ixF
    rw [ih]
    cases hp : p y with
    | true =>
      rw [if_pos rfl, if_pos (hpq y hp), List.filter_cons_of_pos (by rw [ha, hp])]
    | false =>
      rw [if_neg (by simp)]
      split
      · rw [List.filter_cons_of_neg (by rw [ha, hp]; simp)]
      · rfl
/-- The indices of a part are those of the whole at which the part's property holds. -/
theorem ix_part {p q : α → Bool} (hpq : ∀ x, p x = true → q x = true) (l : List α) : ixs p l = (ixs q l).filter (hasAt p l) := ixF_part hpq l l 0 rfl
end

/-! ### A list told apart into two -/
section
variable {α : Type}
/-- How many of the first so many have the property. -/
def numF (f : α → Bool) (l : List α) (a : Nat) : Nat := ((l.take a).filter f).length
theorem num_zero (f : α → Bool) (l : List α) : numF f l 0 = 0 := rfl
theorem num_yes {f : α → Bool} {l : List α} {a : Nat} {x : α} (h : l[a]? = some x) (hf : f x = true) : numF f l (a + 1) = numF f l a + 1 := by
  unfold numF
  rw [take_at l a x h, List.filter_append, List.filter_cons_of_pos hf, List.length_append]
  rfl
theorem num_no {f : α → Bool} {l : List α} {a : Nat} {x : α} (h : l[a]? = some x) (hf : f x = false) : numF f l (a + 1) = numF f l a := by
  unfold numF
  rw [take_at l a x h, List.filter_append, List.filter_cons_of_neg (by rw [hf]; simp), List.length_append]
  rfl
theorem num_le (f : α → Bool) (l : List α) (a : Nat) : numF f l a ≤ (l.filter f).length := by
  unfold numF
  conv => rhs; rw [← List.take_append_drop a l, List.filter_append, List.length_append]
  omega
theorem num_at {f : α → Bool} {l : List α} {a : Nat} {x : α} (h : l[a]? = some x) (hf : f x = true) : (l.filter f)[numF f l a]? = some x := by
  have e : l.filter f = (l.take a).filter f ++ x :: (l.drop (a + 1)).filter f := by
    conv => lhs; rw [← List.take_append_drop a l, drop_at l a x h, List.filter_append, List.filter_cons_of_pos hf]
  rw [e]
  unfold numF
  rw [List.getElem?_append_right (Nat.le_refl _), Nat.sub_self]
  rfl
theorem num_ne {f : α → Bool} {l : List α} {j : Nat} {x y : α} (h : (l.filter f)[j]? = some y) (hf : f x = false) : y ≠ x := by
  rintro rfl
  have := (List.mem_filter.1 (List.mem_of_getElem? h)).2
  rw [hf] at this
  cases this
theorem num_sum (f : α → Bool) : ∀ l : List α, (l.filter f).length + (l.filter fun x => !f x).length = l.length
  | [] => rfl
  | x :: r => by
    have := num_sum f r
    cases hf : f x <;> simp [hf] <;> omega
end
end Go.Proofs.YtkhalnjgbdpfhaaGreat
namespace Go.Proofs.YtkhalnjgbdpfhaaGreat
open Go

/-- A route: its identifier, its mode, whether it takes bicycles. -/
abbrev Rt := List UInt8 × Int × Bool
/-- A mode. -/
def okM (m : Int) : Prop := 0 ≤ m ∧ m < 8
instance (m : Int) : Decidable (okM m) := by unfold okM; infer_instance

/-! ### Check -/
/-- The error of one route behind routes with these identifiers. -/
def badR (seen : List (List UInt8)) (x : Rt) : Int := if validB x.1 = false then 12 else if x.1 ∈ seen then 6 else if okM x.2.1 then 0 else 2
theorem badR_name {seen : List (List UInt8)} {x : Rt} (h : validB x.1 = false) : badR seen x = 12 := by unfold badR; rw [if_pos h]
theorem badR_twice {seen : List (List UInt8)} {x : Rt} (h : validB x.1 = true) (h2 : x.1 ∈ seen) : badR seen x = 6 := by unfold badR; rw [if_neg (by rw [h]; simp), if_pos h2]
theorem badR_mode {seen : List (List UInt8)} {x : Rt} (h : validB x.1 = true) (h2 : x.1 ∉ seen) (h3 : ¬ okM x.2.1) : badR seen x = 2 := by unfold badR; rw [if_neg (by rw [h]; simp), if_neg h2, if_neg h3]
theorem badR_none {seen : List (List UInt8)} {x : Rt} (h : validB x.1 = true) (h2 : x.1 ∉ seen) (h3 : okM x.2.1) : badR seen x = 0 := by unfold badR; rw [if_neg (by rw [h]; simp), if_neg h2, if_pos h3]
theorem badR_valid {seen : List (List UInt8)} {x : Rt} (h : badR seen x = 0) : validB x.1 = true := by
  cases hv : validB x.1 with
  | true => rfl
  | false => rw [badR_name hv] at h; simp at h
theorem valid_le {l : List UInt8} (h : validB l = true) : l.length ≤ 32 := ((valid_iff l).1 h).1.2
/-- The identifier. -/
def idR (x : Rt) : List UInt8 := x.1
/-- What Check answers. -/
def chkR (l : List Rt) : Int × Int := if 64 < l.length then (0, 5) else fbF badR idR [] 0 l
theorem chkR_many {l : List Rt} (h : 64 < l.length) : chkR l = (0, 5) := by unfold chkR; rw [if_pos h]
theorem chkR_start {l : List Rt} (h : l.length ≤ 64) : chkR l = fbF badR idR ((l.take 0).map idR) 0 (l.drop 0) := by unfold chkR; rw [if_neg (by omega)]; rfl
/-- Whether a route has this identifier. -/
def isR (id : List UInt8) (x : Rt) : Bool := decide (x.1 = id)
theorem isR_yes {id : List UInt8} {x : Rt} (h : x.1 = id) : isR id x = true := decide_eq_true h
theorem isR_no {id : List UInt8} {x : Rt} (h : x.1 ≠ id) : isR id x = false := decide_eq_false h

/-! ### The names -/
def nmB : List UInt8 := [98, 117, 115]
def nmL : List (List UInt8) := [nmB, [116, 114, 97, 109], [109, 101, 116, 114, 111], [114, 97, 105, 108], [102, 101, 114, 114, 121], [99, 111, 97, 99, 104], [99, 97, 98, 108, 101], [102, 117, 110, 105, 99, 117, 108, 97, 114]]
/-- The name of a mode. -/
def nmR (m : Nat) : List UInt8 := nmL.getD m []
/-- Whether this is the name. -/
def isN (s x : List UInt8) : Bool := decide (x = s)
/-- The mode with a name, or -1. -/
def modeR (s : List UInt8) : Int := fdT (isN s) nmL
theorem modeR_nm : ∀ m : Nat, m < 8 → modeR (nmR m) = (m : Int) := by decide
theorem modeR_range (s : List UInt8) : modeR s = -1 ∨ (0 ≤ modeR s ∧ modeR s < 8) := fd_range (isN s) nmL
theorem modeR_is {s : List UInt8} (h : modeR s ≠ -1) : s = nmR (modeR s).toNat := by
  obtain ⟨j, x, h1, h2, h3⟩ := fd_mem (p := isN s) (l := nmL) h
  have e : modeR s = (j : Int) := h3
  rw [e, Int.toNat_natCast]
  unfold nmR
  rw [List.getD_eq_getElem?_getD, h1]
  exact (of_decide_eq_true h2).symm
theorem nmR_at {m : Nat} (h : m < 8) : nmL[m]? = some (nmR m) := by
  unfold nmR
  have h8 : m < nmL.length := h
  rw [List.getD_eq_getElem?_getD, List.getElem?_eq_getElem h8]
  rfl
theorem nmR_len : ∀ m : Nat, m < 8 → 1 ≤ (nmR m).length ∧ (nmR m).length ≤ 9 := by decide

/-! ### The modes of routes, and the routes with modes -/
/-- The modes from here on, behind a set. -/
def modF (s : Nat) : List Rt → Nat
  | [] => s &&& 255
  | x :: r => modF (s ||| one x.2.1) r
/-- The set of the modes. -/
def modR (l : List Rt) : Nat := modF 0 l
theorem modF_next {q s : Nat} {l : List Rt} {k : Nat} {x : Rt} (hr : q = modF s (l.drop k)) (h : l[k]? = some x) : q = modF (s ||| one x.2.1) (l.drop (k + 1)) := by
  rw [hr, drop_at l k x h]
  rfl
theorem modF_done {q s : Nat} {l : List Rt} {k : Nat} (hr : q = modF s (l.drop k)) (h : l.length ≤ k) : q = s &&& 255 := by
  rw [hr, List.drop_of_length_le h]
  rfl
theorem modF_bit : ∀ (l : List Rt) (s : Nat) (j : Nat), j < 64 → (modF s l).testBit j = (decide (j < 8) && (s.testBit j || l.any fun x => decide (x.2.1 = (j : Int))))
  | [], s, j, _ => by
    unfold modF
    rw [show (255 : Nat) = 2 ^ 8 - 1 by rfl, Nat.testBit_and, Nat.testBit_two_pow_sub_one, List.any_nil, Bool.or_false, Bool.and_comm]
  | x :: r, s, j, hj => by
    unfold modF
    rw [modF_bit r _ j hj, Nat.testBit_or, one_bit x.2.1 j hj, List.any_cons, Bool.or_assoc]
theorem modR_bit (l : List Rt) (j : Nat) (h : j < 8) : (modR l).testBit j = l.any fun x => decide (x.2.1 = (j : Int)) := by
  unfold modR
  rw [modF_bit l 0 j (by omega), decide_eq_true h, Nat.zero_testBit, Bool.true_and, Bool.false_or]
theorem modF_lt : ∀ (l : List Rt) (s : Nat), modF s l < 256
  | [], s => Nat.lt_of_le_of_lt (Nat.and_le_right (n := s) (m := 255)) (by decide)
  | x :: r, s => modF_lt r _
theorem modR_lt (l : List Rt) : modR l < 256 := modF_lt l 0
/-- An int as a word. -/
def wordR (n : Int) : Nat := (n % 18446744073709551616).toNat
theorem word_lt (n : Int) : W64 (wordR n) := by unfold wordR W64; omega
theorem word_cast (n : Int) : ((wordR n : Nat) : Int) = n % 18446744073709551616 := by unfold wordR; omega
theorem word_of {n : Int} (h0 : 0 ≤ n) (h1 : n < 18446744073709551616) : wordR n = n.toNat := by unfold wordR; omega
/-- Whether a route has one of the modes. -/
def hasR (n : Int) (x : Rt) : Bool := decide (okM x.2.1) && (decide (n = 0) || (wordR n).testBit x.2.1.toNat)
theorem hasR_no {n : Int} {x : Rt} (h : ¬ okM x.2.1) : hasR n x = false := by unfold hasR; rw [decide_eq_false h]; rfl
theorem hasR_zero {x : Rt} (h : okM x.2.1) : hasR 0 x = true := by unfold hasR; rw [decide_eq_true h]; rfl
theorem hasR_bit {n : Int} {x : Rt} (h : okM x.2.1) (h0 : n ≠ 0) : hasR n x = (wordR n).testBit x.2.1.toNat := by unfold hasR; rw [decide_eq_true h, decide_eq_false h0, Bool.true_and, Bool.false_or]
/-- The indices of the routes with one of the modes. -/
def withR (n : Int) (l : List Rt) : List Int := ixs (hasR n) l
theorem hasR_all {n : Int} {x : Rt} (h : hasR n x = true) : hasR 0 x = true := by
  unfold hasR at h ⊢
  rw [Bool.and_eq_true] at h
  rw [h.1]
  rfl
theorem flip_bit {n : Int} (h0 : 1 ≤ n) (h1 : n ≤ 254) {m : Nat} (hm : m < 8) : (wordR (255 - n)).testBit m = !(wordR n).testBit m := by
  rw [word_of (n := 255 - n) (by omega) (by omega), word_of (n := n) (by omega) (by omega)]
  obtain ⟨k, rfl⟩ := Int.eq_ofNat_of_zero_le (show 0 ≤ n by omega)
  rw [Int.toNat_natCast, show ((255 : Int) - (k : Int)).toNat = 2 ^ 8 - (k + 1) by omega, Nat.testBit_two_pow_sub_succ (by omega), decide_eq_true hm, Bool.true_and]
theorem hasR_flip {n : Int} (h0 : 1 ≤ n) (h1 : n ≤ 254) {x : Rt} (h : hasR 0 x = true) : hasR (255 - n) x = !hasR n x := by
  have hm : okM x.2.1 := by
    unfold hasR at h
    rw [Bool.and_eq_true] at h
    exact of_decide_eq_true h.1
  rw [hasR_bit hm (by omega), hasR_bit hm (by omega)]
  unfold okM at hm
  exact flip_bit h0 h1 (by omega)
/-- Whether a route at an index has one of the modes. -/
def atR (n : Int) (l : List Rt) : Int → Bool := hasAt (hasR n) l
theorem with_part (n : Int) (l : List Rt) : withR n l = (withR 0 l).filter (atR n l) := ix_part (fun _ h => hasR_all h) l
theorem with_flip {n : Int} (h0 : 1 ≤ n) (h1 : n ≤ 254) (l : List Rt) : withR (255 - n) l = (withR 0 l).filter fun i => !atR n l i := by
  rw [with_part (255 - n) l]
  refine List.filter_congr fun i hi => ?_
  have h2 : i ∈ (withR 0 l).filter (hasAt (hasR 0) l) := by
    have : withR 0 l = (withR 0 l).filter (hasAt (hasR 0) l) := ix_part (fun _ h => h) l
    rw [← this]
    exact hi
  have h3 := (List.mem_filter.1 h2).2
  unfold atR
  unfold hasAt at h3 ⊢
  cases hx : l[i.toNat]? with
  | none => rw [hx] at h3; cases h3
  | some x =>
    rw [hx] at h3
    exact hasR_flip h0 h1 h3
theorem with_le (n : Int) (l : List Rt) : (withR n l).length ≤ l.length := ix_le _ l
theorem with_sum {n : Int} (h0 : 1 ≤ n) (h1 : n ≤ 254) (l : List Rt) : (withR n l).length + (withR (255 - n) l).length = (withR 0 l).length := by
  rw [with_part n l, with_flip h0 h1 l]
  exact num_sum _ _

/-! ### Texts -/
/-- The text of the modes from this one on, behind a text. -/
def catR (a : List UInt8) (m : Nat) : List UInt8 := if a = [] then nmR m else a ++ 43 :: nmR m
def txF (n : Nat) : Nat → List UInt8
  | 0 => []
  | m + 1 => if n.testBit m then catR (txF n m) m else txF n m
theorem txF_yes {n m : Nat} (h : n.testBit m = true) : txF n (m + 1) = catR (txF n m) m := by
  conv => lhs; unfold txF
  rw [if_pos h]
theorem txF_no {n m : Nat} (h : n.testBit m = false) : txF n (m + 1) = txF n m := by
  conv => lhs; unfold txF
  rw [if_neg (by rw [h]; simp)]
theorem txF_le (n : Nat) : ∀ m : Nat, m ≤ 8 → (txF n m).length ≤ 10 * m
  | 0, _ => Nat.le_refl _
  | m + 1, h => by
    have ih := txF_le n m (by omega)
    have := (nmR_len m (by omega)).2
    unfold txF catR
    split
    · split
      · omega
      · rw [List.length_append, List.length_cons]; omega
    · omega
def noneR : List UInt8 := [110, 111, 110, 101]
/-- The text of a set of modes. -/
def textR (n : Nat) : List UInt8 := if txF n 8 = [] then noneR else txF n 8
theorem textR_zero : textR 0 = noneR := rfl
theorem textR_none {n : Nat} (h : txF n 8 = []) : textR n = noneR := by unfold textR; rw [if_pos h]
theorem textR_some {n : Nat} (h : txF n 8 ≠ []) : textR n = txF n 8 := by unfold textR; rw [if_neg h]
theorem txF_pos : ∀ n : Nat, n < 256 → n ≠ 0 → txF n 8 ≠ [] := by decide +kernel
theorem textR_le (n : Nat) : (textR n).length ≤ 100 := by
  have := txF_le n 8 (by omega)
  unfold textR
  split
  · decide
  · omega
theorem textR_ne : ∀ n : Nat, n < 256 → textR n ≠ [] := by decide +kernel
/-- What FormatModes answers: the text and the error. -/
def fmtR (n : Int) : List UInt8 × Int := if n < 0 ∨ 255 < n then ([], 2) else (textR n.toNat, 0)
theorem fmtR_far {n : Int} (h : n < 0 ∨ 255 < n) : fmtR n = ([], 2) := by unfold fmtR; rw [if_pos h]
theorem fmtR_in {n : Nat} (h : n < 256) : fmtR (n : Int) = (textR n, 0) := by unfold fmtR; rw [if_neg (by omega), Int.toNat_natCast]

/-! ### Texts taken apart -/
/-- A name cut off: the set with its mode, if it is a name of a later mode. -/
def cutR (s : Nat) (c : List UInt8) : Option Nat := if modeR c = -1 then none else if s < 2 ^ (modeR c).toNat then some (s + 2 ^ (modeR c).toNat) else none
theorem cutR_bad {s : Nat} {c : List UInt8} (h : modeR c = -1) : cutR s c = none := by unfold cutR; rw [if_pos h]
theorem cutR_order {s m : Nat} {c : List UInt8} (h : modeR c = (m : Int)) (h2 : ¬ s < 2 ^ m) : cutR s c = none := by
  unfold cutR
  rw [h, Int.toNat_natCast, if_neg (by omega), if_neg h2]
theorem cutR_good {s m : Nat} {c : List UInt8} (h : modeR c = (m : Int)) (h2 : s < 2 ^ m) : cutR s c = some (s + 2 ^ m) := by
  unfold cutR
  rw [h, Int.toNat_natCast, if_neg (by omega), if_pos h2]
/-- The set with the text c ++ r behind the set s: c is the name so far. -/
def prsF (s : Nat) (c : List UInt8) : List UInt8 → Option Nat
  | [] => cutR s c
  | x :: r => if x = 43 then (match cutR s c with | some t => prsF t [] r | none => none) else prsF s (c ++ [x]) r
/-- The set with this text, or -1. -/
def prsR (t : List UInt8) : Int := if t = noneR then 0 else match prsF 0 [] t with | some n => (n : Int) | none => -1
/-- The text of a set with a plus sign behind it, or nothing. -/
def preR (s : Nat) : List UInt8 := if s = 0 then [] else textR s ++ [43]
theorem pre_cut : ∀ s : Nat, s < 256 → ∀ m : Nat, m < 8 → s < 2 ^ m → textR (s + 2 ^ m) = preR s ++ nmR m := by decide +kernel
theorem cutR_is {s t : Nat} {c : List UInt8} (hs : s < 256) (h : cutR s c = some t) : t ≠ 0 ∧ t < 256 ∧ textR t = preR s ++ c := by
  unfold cutR at h
  by_cases h1 : modeR c = -1
  · rw [if_pos h1] at h; cases h
  rw [if_neg h1] at h
  have hr := modeR_range c
  by_cases h2 : s < 2 ^ (modeR c).toNat
  · rw [if_pos h2] at h
    obtain rfl := Option.some.inj h
    have hm : (modeR c).toNat < 8 := by omega
    have hp : 2 ^ (modeR c).toNat ≤ 2 ^ 7 := Nat.pow_le_pow_right (by decide) (by omega)
    have hz := Nat.two_pow_pos (modeR c).toNat
    refine ⟨by omega, by omega, ?_⟩
    rw [pre_cut s hs _ hm h2]
    congr 1
    exact (modeR_is h1).symm
  · rw [if_neg h2] at h; cases h
theorem prsF_is : ∀ (r : List UInt8) (s n : Nat) (c : List UInt8), s < 256 → prsF s c r = some n → n ≠ 0 ∧ n < 256 ∧ textR n = preR s ++ c ++ r
  | [], s, n, c, hs, h => by
    rw [List.append_nil]
    exact cutR_is hs h
  | x :: r, s, n, c, hs, h => by
    unfold prsF at h
    by_cases hx : x = 43
    · rw [if_pos hx] at h
      cases hc : cutR s c with
      | none => rw [hc] at h; cases h
      | some t =>
        rw [hc] at h
        obtain ⟨h1, h2, h3⟩ := cutR_is hs hc
        obtain ⟨k1, k2, k3⟩ := prsF_is r t n [] h2 h
        refine ⟨k1, k2, ?_⟩
        rw [k3, ← h3, hx]
        unfold preR
        rw [if_neg h1]
        simp
    · rw [if_neg hx] at h
      obtain ⟨k1, k2, k3⟩ := prsF_is r s n (c ++ [x]) hs h
      refine ⟨k1, k2, ?_⟩
      rw [k3]
      simp
theorem prsR_text : ∀ n : Nat, n < 256 → prsR (textR n) = (n : Int) := by decide +kernel
theorem prsR_three (t : List UInt8) : prsR t = -1 ∨ ∃ n : Nat, n < 256 ∧ prsR t = (n : Int) ∧ textR n = t := by
  unfold prsR
  split
  · next h => exact .inr ⟨0, by decide, rfl, by rw [h]; rfl⟩
  · cases hp : prsF 0 [] t with
    | none => exact .inl rfl
    | some n =>
      obtain ⟨h1, h2, h3⟩ := prsF_is t 0 n [] (by decide) hp
      refine .inr ⟨n, h2, rfl, ?_⟩
      rw [h3]
      rfl
theorem prsR_first {t : List UInt8} {n : Nat} (h : n < 256) (ht : textR n = t) : prsR t = (n : Int) := by rw [← ht, prsR_text n h]
theorem prsR_none {t : List UInt8} (h : ∀ n : Nat, n < 256 → textR n ≠ t) : prsR t = -1 := by
  rcases prsR_three t with h1 | ⟨n, h2, -, h3⟩
  · exact h1
  · exact absurd h3 (h n h2)
/-- What ParseModes answers: the set and the error. -/
def ansR (n : Int) : Int × Int := if n = -1 then (0, 3) else (n, 0)
theorem ansR_bad : ansR (-1) = (0, 3) := rfl
theorem ansR_good (n : Nat) : ansR (n : Int) = ((n : Int), 0) := by unfold ansR; rw [if_neg (by omega)]
/-- The scan as the code goes: an Option as an int. -/
def optR (o : Option Nat) : Int := match o with | some n => (n : Int) | none => -1
theorem prsR_none' : prsR noneR = 0 := rfl
theorem prsR_scan {t : List UInt8} (h : t ≠ noneR) : prsR t = optR (prsF 0 [] (t.drop 0)) := by unfold prsR; rw [if_neg h]; rfl
theorem scan_end {q : Int} {s k : Nat} {c t : List UInt8} (hr : q = optR (prsF s c (t.drop k))) (h : t.length ≤ k) : q = optR (cutR s c) := by
  rw [hr, List.drop_of_length_le h]
  rfl
theorem scan_byte {q : Int} {s k : Nat} {c t : List UInt8} {x : UInt8} (hr : q = optR (prsF s c (t.drop k))) (h : t[k]? = some x) (hx : x ≠ 43) : q = optR (prsF s (c ++ [x]) (t.drop (k + 1))) := by
  rw [hr, drop_at t k x h]
  conv => lhs; unfold prsF
  rw [if_neg hx]
theorem scan_cut {q : Int} {s k u : Nat} {c t : List UInt8} (hr : q = optR (prsF s c (t.drop k))) (h : t[k]? = some 43) (hc : cutR s c = some u) : q = optR (prsF u [] (t.drop (k + 1))) := by
  rw [hr, drop_at t k 43 h]
  conv => lhs; unfold prsF
  rw [if_pos rfl, hc]
theorem scan_bad {q : Int} {s k : Nat} {c t : List UInt8} (hr : q = optR (prsF s c (t.drop k))) (h : t[k]? = some 43) (hc : cutR s c = none) : q = -1 := by
  rw [hr, drop_at t k 43 h]
  unfold prsF
  rw [if_pos rfl, hc]
  rfl
/-- A set has only modes below m. -/
theorem low_iff {s : Nat} {m : Nat} (hs : s < 256) : s < 2 ^ m ↔ ∀ j, j < 64 → s.testBit j = true → j < m := by
  constructor
  · intro h j _ hj
    rcases Nat.lt_or_ge j m with h2 | h2
    · exact h2
    · rw [Nat.testBit_lt_two_pow (Nat.lt_of_lt_of_le h (Nat.pow_le_pow_right (by decide) h2))] at hj
      cases hj
  · intro h
    apply Nat.lt_pow_two_of_testBit
    intro j hj
    rcases Nat.lt_or_ge j 64 with h2 | h2
    · cases hb : s.testBit j with
      | false => rfl
      | true => have := h j h2 hb; omega
    · exact Nat.testBit_lt_two_pow (Nat.lt_of_lt_of_le hs (Nat.le_trans (by decide : 256 ≤ 2 ^ 64) (Nat.pow_le_pow_right (by decide) h2)))
theorem put_low {s m : Nat} (h : s < 2 ^ m) : s ||| 2 ^ m = s + 2 ^ m := by
  rw [bit_add (Nat.testBit_lt_two_pow h)]

/-! ### The names joined -/
theorem elems_text : ∀ n : Nat, n < 256 → n ≠ 0 → List.intercalate [43] ((elems n).map nmR) = textR n := by decide +kernel
theorem elems_mode : ∀ n : Nat, n < 256 → ∀ m ∈ elems n, m < 8 := by decide +kernel
end Go.Proofs.YtkhalnjgbdpfhaaGreat
namespace Go.Proofs.YtkhalnjgbdpfhaaGreat
open Go Go.RowKit

/-- A call: stop, arrival, departure, whether one can board, whether one can alight. -/
abbrev Cl := Int × Int × Int × Bool × Bool

/-! ### The first call that is not valid -/
/-- Whether a call is at the stop of the one before. -/
def onC (p : Option Cl) (x : Cl) : Bool := match p with | some y => decide (x.1 = y.1) | none => false
/-- Whether a call arrives before the one before departs. -/
def ovC (p : Option Cl) (x : Cl) : Bool := match p with | some y => decide (x.2.1 < y.2.2.1) | none => false
/-- The error of a call. -/
def badC (st lo hi : Int) (p : Option Cl) (x : Cl) : Int :=
  if x.1 < 0 ∨ st ≤ x.1 then 9 else if onC p x then 13 else if x.2.1 < lo ∨ x.2.2.1 < x.2.1 ∨ hi < x.2.2.1 then 10 else if ovC p x then 10 else 0
section
variable {st lo hi : Int} {p : Option Cl} {x : Cl}
theorem badC_ref (h : x.1 < 0 ∨ st ≤ x.1) : badC st lo hi p x = 9 := by unfold badC; rw [if_pos h]
theorem badC_stop (h1 : ¬ x.1 < 0) (h2 : ¬ st ≤ x.1) (h : onC p x = true) : badC st lo hi p x = 13 := by unfold badC; rw [if_neg (by omega), if_pos h]
theorem badC_time (h1 : ¬ x.1 < 0) (h2 : ¬ st ≤ x.1) (h3 : onC p x = false) (h : x.2.1 < lo ∨ x.2.2.1 < x.2.1 ∨ hi < x.2.2.1) : badC st lo hi p x = 10 := by
  unfold badC
  rw [if_neg (by omega), if_neg (by rw [h3]; simp), if_pos h]
theorem badC_over (h1 : ¬ x.1 < 0) (h2 : ¬ st ≤ x.1) (h3 : onC p x = false) (h4 : ¬ x.2.1 < lo) (h5 : ¬ x.2.2.1 < x.2.1) (h6 : ¬ hi < x.2.2.1) (h : ovC p x = true) : badC st lo hi p x = 10 := by
  unfold badC
  rw [if_neg (by omega), if_neg (by rw [h3]; simp), if_neg (by omega), if_pos h]
theorem badC_none (h1 : ¬ x.1 < 0) (h2 : ¬ st ≤ x.1) (h3 : onC p x = false) (h4 : ¬ x.2.1 < lo) (h5 : ¬ x.2.2.1 < x.2.1) (h6 : ¬ hi < x.2.2.1) (h : ovC p x = false) : badC st lo hi p x = 0 := by
  unfold badC
  rw [if_neg (by omega), if_neg (by rw [h3]; simp), if_neg (by omega), if_neg (by rw [h]; simp)]
theorem badC_good (h : badC st lo hi p x = 0) : x.2.1 ≤ x.2.2.1 ∧ ovC p x = false := by
  unfold badC at h
  split at h
  · omega
  split at h
  · omega
  split at h
  · omega
  split at h
  · omega
  · next h1 h2 => exact ⟨by omega, Bool.eq_false_iff.2 h2⟩
theorem onC_none : onC none x = false := rfl
theorem ovC_none : ovC none x = false := rfl
theorem onC_yes {y : Cl} (h : x.1 = y.1) : onC (some y) x = true := decide_eq_true h
theorem onC_no {y : Cl} (h : x.1 ≠ y.1) : onC (some y) x = false := decide_eq_false h
theorem ovC_yes {y : Cl} (h : x.2.1 < y.2.2.1) : ovC (some y) x = true := decide_eq_true h
theorem ovC_no {y : Cl} (h : ¬ x.2.1 < y.2.2.1) : ovC (some y) x = false := decide_eq_false h
end
/-- The call before this index. -/
def prvC (l : List Cl) : Nat → Option Cl
  | 0 => none
  | k + 1 => l[k]?
/-- The first bad one from here on, and its error. -/
def ckF (st lo hi : Int) (p : Option Cl) (k : Nat) : List Cl → Int × Int
  | [] => (0, 0)
  | x :: r => if badC st lo hi p x = 0 then ckF st lo hi (some x) (k + 1) r else ((k : Int), badC st lo hi p x)
/-- What Check answers. -/
def chkC (st lo hi : Int) (l : List Cl) : Int × Int := if l.length < 2 ∨ 32 < l.length then (0, 5) else ckF st lo hi none 0 l
section
variable {st lo hi : Int} {q : Int × Int} {l : List Cl} {k : Nat} {x : Cl}
theorem chkC_few (h : l.length < 2) : chkC st lo hi l = (0, 5) := by unfold chkC; rw [if_pos (.inl h)]
theorem chkC_many (h : 32 < l.length) : chkC st lo hi l = (0, 5) := by unfold chkC; rw [if_pos (.inr h)]
theorem chkC_start (h : ¬ l.length < 2) (h2 : ¬ 32 < l.length) : chkC st lo hi l = ckF st lo hi (prvC l 0) 0 (l.drop 0) := by unfold chkC; rw [if_neg (by omega)]; rfl
theorem ck_next (hr : q = ckF st lo hi (prvC l k) k (l.drop k)) (h : l[k]? = some x) (hb : badC st lo hi (prvC l k) x = 0) : q = ckF st lo hi (prvC l (k + 1)) (k + 1) (l.drop (k + 1)) := by
  rw [hr, drop_at l k x h]
  conv => lhs; unfold ckF
  rw [if_pos hb]
  show _ = ckF st lo hi l[k]? _ _
  rw [h]
theorem ck_stop {e : Int} (hr : q = ckF st lo hi (prvC l k) k (l.drop k)) (h : l[k]? = some x) (hb : badC st lo hi (prvC l k) x = e) (he : e ≠ 0) : q = ((k : Int), e) := by
  rw [hr, drop_at l k x h]
  unfold ckF
  rw [if_neg (by rw [hb]; exact he), hb]
theorem ck_done (hr : q = ckF st lo hi (prvC l k) k (l.drop k)) (h : l.length ≤ k) : q = (0, 0) := by
  rw [hr, List.drop_of_length_le h]
  rfl
end
/-! ### In valid calls the times ascend -/
/-- From here on, behind a call: each arrives before it departs, and not before the one before departs. -/
def ascF (p : Option Cl) : List Cl → Prop
  | [] => True
  | x :: r => x.2.1 ≤ x.2.2.1 ∧ ovC p x = false ∧ ascF (some x) r
theorem ck_asc (st lo hi : Int) : ∀ (l : List Cl) (p : Option Cl) (k : Nat), (ckF st lo hi p k l).2 = 0 → ascF p l
  | [], _, _, _ => trivial
  | x :: r, p, k, h => by
    unfold ckF at h
    by_cases hb : badC st lo hi p x = 0
    · rw [if_pos hb] at h
      exact ⟨(badC_good hb).1, (badC_good hb).2, ck_asc st lo hi r _ _ h⟩
    · rw [if_neg hb] at h
      exact absurd h hb
theorem asc_from : ∀ (l : List Cl) (y : Cl), ascF (some y) l → ∀ (k : Nat) (z : Cl), l[k]? = some z → y.2.2.1 ≤ z.2.1
  | [], _, _, k, z, h => by simp at h
  | x :: r, y, ha, k, z, h => by
    obtain ⟨h1, h2, h3⟩ := ha
    have h4 : ¬ x.2.1 < y.2.2.1 := of_decide_eq_false h2
    cases k with
    | zero =>
      simp at h
      subst h
      omega
    | succ k =>
      rw [List.getElem?_cons_succ] at h
      have := asc_from r x h3 k z h
      omega
theorem asc_pair : ∀ (l : List Cl) (p : Option Cl), ascF p l → ∀ (i k : Nat) (y z : Cl), i < k → l[i]? = some y → l[k]? = some z → y.2.2.1 ≤ z.2.1
  | [], _, _, i, _, _, _, _, h, _ => by simp at h
  | x :: r, p, ha, i, k, y, z, hik, hi, hk => by
    obtain ⟨k, rfl⟩ : ∃ j, k = j + 1 := ⟨k - 1, by omega⟩
    rw [List.getElem?_cons_succ] at hk
    cases i with
    | zero =>
      simp at hi
      subst hi
      exact asc_from r x ha.2.2 k z hk
    | succ i =>
      rw [List.getElem?_cons_succ] at hi
      exact asc_pair r _ ha.2.2 i k y z (by omega) hi hk
theorem chk_asc {st lo hi : Int} {l : List Cl} (h : (chkC st lo hi l).2 = 0) {i k : Nat} {y z : Cl} (hik : i < k) (h1 : l[i]? = some y) (h2 : l[k]? = some z) : y.2.2.1 ≤ z.2.1 := by
  unfold chkC at h
  split at h
  · cases h
  · exact asc_pair l none (ck_asc st lo hi l none 0 h) i k y z hik h1 h2

/-! ### Calls shifted in time -/
/-- A call shifted. -/
def shX (by_ : Int) (x : Cl) : Cl := (x.1, wrap64 (x.2.1 + by_), wrap64 (x.2.2.1 + by_), x.2.2.2.1, x.2.2.2.2)
/-- The calls shifted. -/
def shC (by_ : Int) (l : List Cl) : List Cl := l.map (shX by_)
theorem shC_len (b : Int) (l : List Cl) : (shC b l).length = l.length := List.length_map _
theorem shC_nil (b : Int) : shC b [] = [] := rfl
theorem shC_snoc {b : Int} {l : List Cl} {k : Nat} {x : Cl} (h : l[k]? = some x) : shC b (l.take (k + 1)) = shC b (l.take k) ++ [shX b x] := by
  unfold shC
  rw [take_at l k x h, List.map_append]
  rfl
/-- The first k shifted, the others as they are. -/
def mixC (b : Int) (l : List Cl) (k : Nat) : List Cl := shC b (l.take k) ++ l.drop k
theorem mixC_zero (b : Int) (l : List Cl) : mixC b l 0 = l := rfl
theorem mixC_all {b : Int} {l : List Cl} {k : Nat} (h : l.length ≤ k) : mixC b l k = shC b l := by
  unfold mixC
  rw [List.take_of_length_le h, List.drop_of_length_le h, List.append_nil]
theorem mixC_len (b : Int) (l : List Cl) (k : Nat) : (mixC b l k).length = l.length := by
  unfold mixC
  rw [List.length_append, shC_len, List.length_take, List.length_drop]
  omega
theorem mixC_at {b : Int} {l : List Cl} {k : Nat} {x : Cl} (h : l[k]? = some x) : (mixC b l k)[k]? = some x := by
  have hk := (List.getElem?_eq_some_iff.1 h).1
  unfold mixC
  rw [List.getElem?_append_right (by rw [shC_len, List.length_take]; omega), shC_len, List.length_take, List.getElem?_drop, Nat.min_eq_left (by omega), Nat.sub_self, Nat.add_zero]
  exact h
theorem mixC_set {b : Int} {l : List Cl} {k : Nat} {x : Cl} (h : l[k]? = some x) : (mixC b l k).set k (shX b x) = mixC b l (k + 1) := by
  have hk := (List.getElem?_eq_some_iff.1 h).1
  unfold mixC
  have hl : (shC b (l.take k)).length = k := by rw [shC_len, List.length_take]; omega
  rw [List.set_append_right _ _ (by omega), hl, Nat.sub_self, drop_at l k x h, List.set_cons_zero, shC_snoc h, List.append_assoc]
  rfl
/-- The times of a call lie near 0. -/
def nearX (x : Cl) : Prop := -1099511627776 ≤ x.2.1 ∧ x.2.1 ≤ 1099511627776 ∧ -1099511627776 ≤ x.2.2.1 ∧ x.2.2.1 ≤ 1099511627776
theorem shX_near {b : Int} {x : Cl} (h : nearX x) (h1 : -1099511627776 ≤ b) (h2 : b ≤ 1099511627776) : shX b x = (x.1, x.2.1 + b, x.2.2.1 + b, x.2.2.2.1, x.2.2.2.2) := by
  obtain ⟨s, a, d, o, e⟩ := x
  unfold nearX at h
  simp only at h
  have e1 : wrap64 (a + b) = a + b := by unfold wrap64; omega
  have e2 : wrap64 (d + b) = d + b := by unfold wrap64; omega
  unfold shX
  simp only [e1, e2]
theorem onC_shift {b : Int} {p : Option Cl} {x : Cl} : onC (p.map (shX b)) (shX b x) = onC p x := by cases p <;> rfl
theorem ovC_shift {b : Int} {p : Option Cl} {x : Cl} (hp : ∀ y, p = some y → nearX y) (h : nearX x) (h1 : -1099511627776 ≤ b) (h2 : b ≤ 1099511627776) : ovC (p.map (shX b)) (shX b x) = ovC p x := by
  cases p with
  | none => rfl
  | some y =>
    rw [Option.map_some, shX_near h h1 h2, shX_near (hp y rfl) h1 h2]
    unfold ovC
    simp only
    rw [Bool.eq_iff_iff, decide_eq_true_iff, decide_eq_true_iff]
    omega
theorem badC_shift {st lo hi b : Int} {p : Option Cl} {x : Cl} (hp : ∀ y, p = some y → nearX y) (h : nearX x) (h1 : -1099511627776 ≤ b) (h2 : b ≤ 1099511627776) : badC st (lo + b) (hi + b) (p.map (shX b)) (shX b x) = badC st lo hi p x := by
  unfold badC
  rw [onC_shift, ovC_shift hp h h1 h2, shX_near h h1 h2]
  simp only
  have e : (x.2.1 + b < lo + b ∨ x.2.2.1 + b < x.2.1 + b ∨ hi + b < x.2.2.1 + b) = (x.2.1 < lo ∨ x.2.2.1 < x.2.1 ∨ hi < x.2.2.1) := by apply propext; omega
  simp only [e]
theorem ck_shift {st lo hi b : Int} (h1 : -1099511627776 ≤ b) (h2 : b ≤ 1099511627776) : ∀ (l : List Cl) (p : Option Cl) (k : Nat), (∀ y, p = some y → nearX y) → (∀ x ∈ l, nearX x) → ckF st (lo + b) (hi + b) (p.map (shX b)) k (l.map (shX b)) = ckF st lo hi p k l
  | [], _, _, _, _ => rfl
  | x :: r, p, k, hp, hl => by
    have hx := hl x (List.mem_cons_self)
    rw [List.map_cons]
    unfold ckF
    rw [badC_shift hp hx h1 h2]
    have ih := ck_shift (st := st) (lo := lo) (hi := hi) h1 h2 r (some x) (k + 1) (fun y hy => by cases hy; exact hx) (fun z hz => hl z (List.mem_cons_of_mem _ hz))
    rw [Option.map_some] at ih
    rw [ih]
theorem chk_shift {st lo hi b : Int} {l : List Cl} (h1 : -1099511627776 ≤ b) (h2 : b ≤ 1099511627776) (hl : ∀ x ∈ l, nearX x) : chkC st (lo + b) (hi + b) (shC b l) = chkC st lo hi l := by
  unfold chkC
  rw [shC_len]
  split
  · rfl
  · exact ck_shift h1 h2 l none 0 (fun y hy => by cases hy) hl
theorem sh_back {b : Int} {l : List Cl} (h1 : -1099511627776 ≤ b) (h2 : b ≤ 1099511627776) (hl : ∀ x ∈ l, nearX x) : shC (-b) (shC b l) = l := by
  unfold shC
  rw [List.map_map]
  conv => rhs; rw [← List.map_id l]
  refine List.map_congr_left fun x hx => ?_
  have h := hl x hx
  show shX (-b) (shX b x) = x
  rw [shX_near h h1 h2]
  obtain ⟨s, a, d, o, e⟩ := x
  unfold nearX at h
  simp only at h
  have e1 : wrap64 (a + b + -b) = a := by unfold wrap64; omega
  have e2 : wrap64 (d + b + -b) = d := by unfold wrap64; omega
  unfold shX
  simp only [e1, e2]
/-- The time from the first departure to the last arrival. -/
def durC (l : List Cl) : Int := if l.length < 2 then 0 else wrap64 ((l.getLast?.getD (0, 0, 0, false, false)).2.1 - (l.head?.getD (0, 0, 0, false, false)).2.2.1)
theorem durC_few {l : List Cl} (h : l.length < 2) : durC l = 0 := by unfold durC; rw [if_pos h]
theorem durC_two {l : List Cl} (h : ¬ l.length < 2) {y z : Cl} (h0 : l[0]? = some y) (h1 : l[l.length - 1]? = some z) : durC l = wrap64 (z.2.1 - y.2.2.1) := by
  unfold durC
  rw [if_neg h, List.getLast?_eq_getElem?, h1, List.head?_eq_getElem?, h0]
  rfl
/-- Whether a call is at the stop. -/
def atC (st : Int) (x : Cl) : Bool := decide (x.1 = st)
theorem atC_yes {st : Int} {x : Cl} (h : x.1 = st) : atC st x = true := decide_eq_true h
theorem atC_no {st : Int} {x : Cl} (h : x.1 ≠ st) : atC st x = false := decide_eq_false h

/-! ### Rides -/
/-- Whether one can board at a call. -/
def boC (l : List Cl) (i : Nat) : Bool := match l[i]? with | some x => x.2.2.2.1 | none => false
/-- Whether one can alight at a call. -/
def alC (l : List Cl) (i : Nat) : Bool := match l[i]? with | some x => x.2.2.2.2 | none => false
/-- Whether two indices are a ride. -/
def rdB (l : List Cl) (i k : Int) : Bool := decide (0 ≤ i) && decide (i < k) && decide (k < (l.length : Int)) && boC l i.toNat && alC l k.toNat
theorem rdB_low {l : List Cl} {i k : Int} (h : ¬ 0 ≤ i) : rdB l i k = false := by unfold rdB; rw [decide_eq_false h]; rfl
theorem rdB_order {l : List Cl} {i k : Int} (h : ¬ i < k) : rdB l i k = false := by unfold rdB; rw [decide_eq_false h, Bool.and_false]; rfl
theorem rdB_far {l : List Cl} {i k : Int} (h : ¬ k < (l.length : Int)) : rdB l i k = false := by unfold rdB; rw [decide_eq_false h, Bool.and_false]; rfl
theorem rdB_in {l : List Cl} {i k : Nat} (h1 : i < k) {y z : Cl} (hi : l[i]? = some y) (hk : l[k]? = some z) : rdB l (i : Int) (k : Int) = (y.2.2.2.1 && z.2.2.2.2) := by
  have h2 := (List.getElem?_eq_some_iff.1 hk).1
  unfold rdB boC alC
  rw [decide_eq_true (by omega), decide_eq_true (by omega), decide_eq_true (by omega), Int.toNat_natCast, Int.toNat_natCast, hi, hk]
  rfl
theorem rdB_is {l : List Cl} {i k : Int} (h : rdB l i k = true) : 0 ≤ i ∧ i < k ∧ k < (l.length : Int) := by
  unfold rdB at h
  rw [Bool.and_eq_true, Bool.and_eq_true, Bool.and_eq_true, Bool.and_eq_true] at h
  exact ⟨of_decide_eq_true h.1.1.1.1, of_decide_eq_true h.1.1.1.2, of_decide_eq_true h.1.1.2⟩
/-- A pair of indices. -/
abbrev Pr := Nat × Nat
/-- The rides from board i and alight k on, in i's row. -/
def rowR (l : List Cl) (i k : Nat) : List Pr := ((List.range' k (l.length - k)).filter fun (k : Nat) => rdB l (i : Int) (k : Int)).map fun (k : Nat) => (i, k)
/-- The rides from the board i on. -/
def allR (l : List Cl) (i : Nat) : List Pr := (List.range' i (l.length - i)).flatMap fun i => rowR l i (i + 1)
/-- All rides in order. -/
def prsC (l : List Cl) : List Pr := allR l 0
section
variable {l : List Cl} {i k : Nat}
theorem range_from {n k : Nat} (h : k < n) : List.range' k (n - k) = k :: List.range' (k + 1) (n - (k + 1)) := by
  rw [show n - k = (n - (k + 1)) + 1 by omega, List.range'_succ]
theorem range_none {n k : Nat} (h : n ≤ k) : List.range' k (n - k) = [] := by
  rw [Nat.sub_eq_zero_of_le h]
  rfl
theorem row_end (h : l.length ≤ k) : rowR l i k = [] := by unfold rowR; rw [range_none h]; rfl
theorem row_hit (h : k < l.length) (hp : rdB l (i : Int) (k : Int) = true) : rowR l i k = (i, k) :: rowR l i (k + 1) := by
  unfold rowR
  rw [range_from h, List.filter_cons, if_pos hp, List.map_cons]
theorem row_miss (h : k < l.length) (hp : rdB l (i : Int) (k : Int) = false) : rowR l i k = rowR l i (k + 1) := by
  conv => lhs; unfold rowR
  rw [range_from h, List.filter_cons, if_neg (by rw [hp]; simp)]
  rfl
theorem all_end (h : l.length ≤ i) : allR l i = [] := by unfold allR; rw [range_none h]; rfl
theorem all_next (h : i < l.length) : allR l i = rowR l i (i + 1) ++ allR l (i + 1) := by
  conv => lhs; unfold allR
  rw [range_from h, List.flatMap_cons]
  rfl
theorem row_back : ∀ (j : Nat), j ≤ i + 1 → i < l.length → rowR l i (i + 1 - j) = rowR l i (i + 1)
  | 0, _, _ => rfl
  | j + 1, h, hi => by
    rw [← row_back j (by omega) hi, row_miss (by omega) (rdB_order (by omega))]
    congr 1
    omega
/-- The row from its first index on. -/
theorem row_zero (h : i < l.length) : rowR l i 0 = rowR l i (i + 1) := by
  have := row_back (l := l) (i := i) (i + 1) (Nat.le_refl _) h
  rw [Nat.sub_self] at this
  exact this
theorem row_le : (rowR l i k).length ≤ l.length - k := by
  unfold rowR
  rw [List.length_map]
  exact Nat.le_trans (List.length_filter_le _ _) (Nat.le_of_eq List.length_range')
theorem all_le : (allR l i).length ≤ (l.length - i) * l.length := by
  have : ∀ (n i : Nat), l.length - i = n → (allR l i).length ≤ n * l.length := by
    intro n
    induction n with
    | zero => intro i h; rw [all_end (by omega)]; simp
    | succ n ih =>
      intro i h
      rw [all_next (by omega), List.length_append, Nat.add_mul]
      have h1 := ih (i + 1) (by omega)
      have h2 := row_le (l := l) (i := i) (k := i + 1)
      omega
  exact this _ i rfl
theorem prs_le (l : List Cl) : (prsC l).length ≤ l.length * l.length := by
  have := all_le (l := l) (i := 0)
  rw [Nat.sub_zero] at this
  exact this
theorem row_mem {p : Pr} (h : p ∈ rowR l i k) : p.1 = i ∧ k ≤ p.2 ∧ rdB l (p.1 : Int) (p.2 : Int) = true := by
  unfold rowR at h
  obtain ⟨a, ha, rfl⟩ := List.mem_map.1 h
  obtain ⟨h1, h2⟩ := List.mem_filter.1 ha
  exact ⟨rfl, (List.mem_range'_1.1 h1).1, h2⟩
theorem all_mem {p : Pr} (h : p ∈ allR l i) : i ≤ p.1 ∧ rdB l (p.1 : Int) (p.2 : Int) = true := by
  unfold allR at h
  obtain ⟨a, ha, hp⟩ := List.mem_flatMap.1 h
  obtain ⟨h1, _, h3⟩ := row_mem hp
  exact ⟨by rw [h1]; exact (List.mem_range'_1.1 ha).1, h3⟩
theorem prs_mem {p : Pr} (h : p ∈ prsC l) : rdB l (p.1 : Int) (p.2 : Int) = true := (all_mem h).2
/-- One pair ahead of another. -/
def ltP (p q : Pr) : Prop := p.1 < q.1 ∨ p.1 = q.1 ∧ p.2 < q.2
theorem row_sort : ∀ (n k : Nat), l.length - k = n → (rowR l i k).Pairwise ltP := by
  intro n
  induction n with
  | zero => intro k h; rw [row_end (by omega)]; exact List.Pairwise.nil
  | succ n ih =>
    intro k h
    cases hp : rdB l (i : Int) (k : Int) with
    | false => rw [row_miss (by omega) hp]; exact ih (k + 1) (by omega)
    | true =>
      rw [row_hit (by omega) hp, List.pairwise_cons]
      refine ⟨fun q hq => ?_, ih (k + 1) (by omega)⟩
      obtain ⟨h1, h2, _⟩ := row_mem hq
      exact .inr ⟨h1.symm, by show k < _; omega⟩
theorem all_sort : ∀ (n i : Nat), l.length - i = n → (allR l i).Pairwise ltP := by
  intro n
  induction n with
  | zero => intro i h; rw [all_end (by omega)]; exact List.Pairwise.nil
  | succ n ih =>
    intro i h
    rw [all_next (by omega), List.pairwise_append]
    refine ⟨row_sort _ _ rfl, ih (i + 1) (by omega), fun p hp q hq => .inl ?_⟩
    have h1 := (row_mem hp).1
    have h2 := (all_mem hq).1
    omega
theorem prs_sort (l : List Cl) : (prsC l).Pairwise ltP := all_sort _ 0 rfl
theorem prs_next {j : Nat} {p q : Pr} (h1 : (prsC l)[j]? = some p) (h2 : (prsC l)[j + 1]? = some q) : p.1 < q.1 ∨ p.1 = q.1 ∧ p.2 < q.2 := by
  obtain ⟨g1, e1⟩ := List.getElem?_eq_some_iff.1 h1
  obtain ⟨g2, e2⟩ := List.getElem?_eq_some_iff.1 h2
  have := List.pairwise_iff_getElem.1 (prs_sort l) j (j + 1) g1 g2 (by omega)
  rw [e1, e2] at this
  exact this
/-! The pairs as a loop over rows comes upon them: those before, this row's, the later rows'. -/
theorem prs_start : prsC l = [] ++ allR l 0 := rfl
theorem prs_row {pre : List Pr} (hr : prsC l = pre ++ allR l i) (h : i < l.length) : prsC l = pre ++ (rowR l i (i + 1) ++ allR l (i + 1)) := by rw [hr, all_next h]
theorem prs_hit {pre : List Pr} (hr : prsC l = pre ++ (rowR l i k ++ allR l (i + 1))) (h : k < l.length) (hp : rdB l (i : Int) (k : Int) = true) : prsC l = pre ++ [(i, k)] ++ (rowR l i (k + 1) ++ allR l (i + 1)) := by
  rw [hr, row_hit h hp, List.append_assoc]
  rfl
theorem prs_miss {pre : List Pr} (hr : prsC l = pre ++ (rowR l i k ++ allR l (i + 1))) (h : k < l.length) (hp : rdB l (i : Int) (k : Int) = false) : prsC l = pre ++ (rowR l i (k + 1) ++ allR l (i + 1)) := by
  rw [hr, row_miss h hp]
theorem prs_rowend {pre : List Pr} (hr : prsC l = pre ++ (rowR l i k ++ allR l (i + 1))) (h : l.length ≤ k) : prsC l = pre ++ allR l (i + 1) := by
  rw [hr, row_end h, List.nil_append]
theorem prs_end {pre : List Pr} (hr : prsC l = pre ++ allR l i) (h : l.length ≤ i) : prsC l = pre := by
  rw [hr, all_end h, List.append_nil]
/-! The number of pairs as two loops over all indices count them. -/
/-- How many are told so far in row i, with those of earlier rows. -/
theorem cnt_start (n : Nat) (hr : n + (allR l i).length = (prsC l).length) (h : i < l.length) : n + ((rowR l i 0).length + (allR l (i + 1)).length) = (prsC l).length := by
  rw [← hr, all_next h, List.length_append, row_zero h]
theorem cnt_hit {n : Nat} (hr : n + ((rowR l i k).length + (allR l (i + 1)).length) = (prsC l).length) (h : k < l.length) (hp : rdB l (i : Int) (k : Int) = true) : (n + 1) + ((rowR l i (k + 1)).length + (allR l (i + 1)).length) = (prsC l).length := by
  rw [← hr, row_hit h hp, List.length_cons]
  omega
theorem cnt_miss {n : Nat} (hr : n + ((rowR l i k).length + (allR l (i + 1)).length) = (prsC l).length) (h : k < l.length) (hp : rdB l (i : Int) (k : Int) = false) : n + ((rowR l i (k + 1)).length + (allR l (i + 1)).length) = (prsC l).length := by
  rw [← hr, row_miss h hp]
theorem cnt_rowend {n : Nat} (hr : n + ((rowR l i k).length + (allR l (i + 1)).length) = (prsC l).length) (h : l.length ≤ k) : n + (allR l (i + 1)).length = (prsC l).length := by
  rw [← hr, row_end h]
  rw [List.length_nil, Nat.zero_add]
theorem cnt_end {n : Nat} (hr : n + (allR l i).length = (prsC l).length) (h : l.length ≤ i) : n = (prsC l).length := by
  rw [← hr, all_end h]
  rfl
end
/-- What a consumer that wants so many holds. -/
theorem prs_take {l : List Cl} {pre : List Pr} {n : Nat} (h : pre <+: prsC l) (hn : pre.length = n) : pre = (prsC l).take n := by
  obtain ⟨q, hq⟩ := h
  rw [← hq, ← hn, List.take_left']
  rfl

/-! ### Lists that are equal -/
theorem eqC_len {a b : List Cl} (h : a.length ≠ b.length) : decide (a = b) = false := decide_eq_false fun e => h (by rw [e])
/-- Equal so far. -/
def eqTo (a b : List Cl) (k : Nat) : Prop := a.take k = b.take k
theorem eqTo_zero (a b : List Cl) : eqTo a b 0 := rfl
theorem eqTo_next {a b : List Cl} {k : Nat} {x : Cl} (h : eqTo a b k) (h1 : a[k]? = some x) (h2 : b[k]? = some x) : eqTo a b (k + 1) := by
  unfold eqTo at *
  rw [take_at a k x h1, take_at b k x h2, h]
theorem eqTo_not {a b : List Cl} {k : Nat} {x y : Cl} (h1 : a[k]? = some x) (h2 : b[k]? = some y) (h : x ≠ y) : decide (a = b) = false := decide_eq_false fun e => by
  subst e
  rw [h1] at h2
  exact h (Option.some.inj h2)
theorem eqTo_all {a b : List Cl} {k : Nat} (h : eqTo a b k) (h1 : a.length ≤ k) (h2 : b.length ≤ k) : decide (a = b) = true := by
  unfold eqTo at h
  rw [List.take_of_length_le h1, List.take_of_length_le h2] at h
  exact decide_eq_true h
/-! ### Stops and times of 64 bits -/
/-- The stops and the times are ints. -/
def OkS (l : List Cl) : Prop := ∀ x ∈ l, (-9223372036854775808 ≤ x.1 ∧ x.1 ≤ 9223372036854775807) ∧ (-9223372036854775808 ≤ x.2.1 ∧ x.2.1 ≤ 9223372036854775807) ∧ -9223372036854775808 ≤ x.2.2.1 ∧ x.2.2.1 ≤ 9223372036854775807
theorem OkS.all {l : List Cl} (h : OkS l) {k : Nat} {x : Cl} (hx : l[k]? = some x) : (-9223372036854775808 ≤ x.1 ∧ x.1 ≤ 9223372036854775807) ∧ (-9223372036854775808 ≤ x.2.1 ∧ x.2.1 ≤ 9223372036854775807) ∧ -9223372036854775808 ≤ x.2.2.1 ∧ x.2.2.1 ≤ 9223372036854775807 := h x (List.mem_iff_getElem?.2 ⟨k, hx⟩)
end Go.Proofs.YtkhalnjgbdpfhaaGreat
namespace Go.Proofs.YtkhalnjgbdpfhaaGreat
open Go

/-- A list in ascending order. -/
def srtI (l : List Int) : List Int := l.mergeSort fun x y => decide (x ≤ y)
theorem srtI_nil : srtI [] = [] := by simp [srtI]
theorem srtI_mem (l : List Int) (z : Int) : z ∈ srtI l ↔ z ∈ l := (List.mergeSort_perm l _).mem_iff
theorem srtI_len (l : List Int) : (srtI l).length = l.length := (List.mergeSort_perm l _).length_eq
theorem srtI_perm (l : List Int) : (srtI l).Perm l := List.mergeSort_perm l _
theorem srtI_up (l : List Int) : (srtI l).Pairwise (· ≤ ·) := by
  refine List.Pairwise.imp ?_ (List.pairwise_mergeSort (le := fun x y : Int => decide (x ≤ y)) (fun x y z h1 h2 => ?_) (fun x y => ?_) l)
  · intro x y h
    simpa using h
  · simp at *; omega
  · simp; omega
theorem up_unique : ∀ a b : List Int, a.Pairwise (· ≤ ·) → b.Pairwise (· ≤ ·) → a.Perm b → a = b
  | [], b, _, _, p => p.nil_eq
  | x :: a, [], _, _, p => absurd p.symm.nil_eq (by simp)
  | x :: a, y :: b, ha, hb, p => by
    have ha' := List.pairwise_cons.1 ha
    have hb' := List.pairwise_cons.1 hb
    have h1 : y ∈ x :: a := p.mem_iff.2 List.mem_cons_self
    have h2 : x ∈ y :: b := p.mem_iff.1 List.mem_cons_self
    have a1 : x ≤ y := by
      rcases List.mem_cons.1 h1 with h | h
      · omega
      · exact ha'.1 y h
    have a2 : y ≤ x := by
      rcases List.mem_cons.1 h2 with h | h
      · omega
      · exact hb'.1 x h
    obtain rfl : x = y := by omega
    rw [up_unique a b ha'.2 hb'.2 ((List.perm_cons x).1 p)]
theorem srt_is {l m : List Int} (h : m.Pairwise (· ≤ ·)) (p : m.Perm l) : srtI l = m := up_unique _ _ (srtI_up l) h ((srtI_perm l).trans p.symm)
/-- In a sorted list without doubles each is less than the next one. -/
theorem srt_less {l : List Int} (h : l.Nodup) {i : Nat} {x y : Int} (h1 : (srtI l)[i]? = some x) (h2 : (srtI l)[i + 1]? = some y) : x < y := by
  obtain ⟨g1, e1⟩ := List.getElem?_eq_some_iff.1 h1
  obtain ⟨g2, e2⟩ := List.getElem?_eq_some_iff.1 h2
  have a := List.pairwise_iff_getElem.1 (srtI_up l) i (i + 1) g1 g2 (by omega)
  have b := List.pairwise_iff_getElem.1 ((srtI_perm l).nodup_iff.2 h) i (i + 1) g1 g2 (by omega)
  rw [e1, e2] at a b
  omega

/-! ### One more put into its place from behind -/
/-- The new one ahead of those from an index on. -/
def insS (old : List Int) (x : Int) (k : Nat) : List Int := old.take k ++ x :: old.drop k
section
variable {old : List Int} {x : Int} {k : Nat}
theorem insS_start (old : List Int) (x : Int) : insS old x old.length = old ++ [x] := by unfold insS; rw [List.take_length, List.drop_length]
theorem insS_len (old : List Int) (x : Int) (k : Nat) : (insS old x k).length = old.length + 1 := by
  unfold insS
  rw [List.length_append, List.length_cons, List.length_take, List.length_drop]
  omega
theorem insS_at (hk : k ≤ old.length) : (insS old x k)[k]? = some x := by
  unfold insS
  rw [List.getElem?_append_right (by rw [List.length_take]; omega), List.length_take, Nat.min_eq_left hk, Nat.sub_self]
  rfl
theorem insS_before {y : Int} (h : old[k]? = some y) : (insS old x (k + 1))[k]? = some y := by
  have hk := (List.getElem?_eq_some_iff.1 h).1
  unfold insS
  rw [List.getElem?_append_left (by rw [List.length_take]; omega), List.getElem?_take, if_pos (by omega), h]
theorem insS_swap {y : Int} (h : old[k]? = some y) : ((insS old x (k + 1)).set (k + 1) y).set k x = insS old x k := by
  have hk := (List.getElem?_eq_some_iff.1 h).1
  unfold insS
  rw [take_at old k y h, List.set_append_right _ _ (by rw [List.length_append, List.length_take]; simp; omega)]
  rw [List.length_append, List.length_take, Nat.min_eq_left (by omega)]
  simp only [List.length_cons, List.length_nil, Nat.zero_add, Nat.sub_self, List.set_cons_zero]
  rw [List.append_assoc, List.set_append_right _ _ (by rw [List.length_take]; omega), List.length_take, Nat.min_eq_left (by omega), Nat.sub_self, drop_at old k y h]
  rfl
theorem insS_perm (old : List Int) (x : Int) (k : Nat) : (insS old x k).Perm (old ++ [x]) := by
  unfold insS
  refine List.perm_middle.trans ?_
  rw [List.take_append_drop]
  exact (List.perm_append_comm (l₁ := [x]) (l₂ := old))
theorem insS_up (hs : old.Pairwise (· ≤ ·)) (hd : ∀ y ∈ old.drop k, x ≤ y) (ht : k = 0 ∨ ∃ y, old[k - 1]? = some y ∧ y ≤ x) : (insS old x k).Pairwise (· ≤ ·) := by
  have hs' := hs
  rw [← List.take_append_drop k old, List.pairwise_append] at hs'
  obtain ⟨p1, p2, p3⟩ := hs'
  unfold insS
  rw [List.pairwise_append, List.pairwise_cons]
  have hax : ∀ a ∈ old.take k, a ≤ x := by
    intro a ha
    rcases ht with rfl | ⟨y, hy, hyx⟩
    · simp at ha
    · cases k with
      | zero => simp at ha
      | succ k =>
        rw [Nat.add_sub_cancel] at hy
        rw [take_at old k y hy] at ha p1
        rw [List.pairwise_append] at p1
        rcases List.mem_append.1 ha with h | h
        · have := p1.2.2 a h y (by simp)
          omega
        · simp at h
          omega
  refine ⟨p1, ⟨hd, p2⟩, fun a ha b hb => ?_⟩
  rcases List.mem_cons.1 hb with rfl | hb
  · exact hax a ha
  · exact p3 a ha b hb
theorem insS_done {p : List Int} (hd : ∀ y ∈ (srtI p).drop k, x ≤ y) (ht : k = 0 ∨ ∃ y, (srtI p)[k - 1]? = some y ∧ y ≤ x) : insS (srtI p) x k = srtI (p ++ [x]) :=
  (srt_is (insS_up (srtI_up p) hd ht) ((insS_perm _ _ _).trans ((srtI_perm p).append_right [x]))).symm
theorem insS_go {y : Int} (hd : ∀ z ∈ old.drop (k + 1), x ≤ z) (h : old[k]? = some y) (hy : x ≤ y) : ∀ z ∈ old.drop k, x ≤ z := by
  intro z hz
  rw [drop_at old k y h] at hz
  rcases List.mem_cons.1 hz with rfl | hz
  · exact hy
  · exact hd z hz
end
end Go.Proofs.YtkhalnjgbdpfhaaGreat
namespace Go.Proofs.YtkhalnjgbdpfhaaGreat
open Go Go.RowKit

/-- A frequency: trip, from, to, every. -/
abbrev Fq := Int × Int × Int × Int

/-! ### Starts -/
/-- Whether a frequency is sound. -/
def sndF (f : Fq) : Bool := decide (0 ≤ f.2.1 ∧ f.2.1 < f.2.2.1 ∧ f.2.2.1 ≤ 172800 ∧ 1 ≤ f.2.2.2 ∧ f.2.2.2 ≤ 86400)
theorem snd_iff {t a b e : Int} : sndF (t, a, b, e) = true ↔ (0 ≤ a ∧ a < b ∧ b ≤ 172800 ∧ 1 ≤ e ∧ e ≤ 86400) := by unfold sndF; exact decide_eq_true_iff
theorem snd_no {t a b e : Int} (h : ¬ (0 ≤ a ∧ a < b ∧ b ≤ 172800 ∧ 1 ≤ e ∧ e ≤ 86400)) : sndF (t, a, b, e) = false := by unfold sndF; exact decide_eq_false h
/-- How many starts there are. -/
def cntF (f : Fq) : Nat := ((f.2.2.1 - f.2.1 - 1) / f.2.2.2 + 1).toNat
/-- The start with this number. -/
def nthF (f : Fq) (k : Nat) : Int := f.2.1 + (k : Int) * f.2.2.2
/-- The starts. -/
def lstF (f : Fq) : List Int := (List.range (cntF f)).map (nthF f)
/-- The starts of a sound frequency, none of another one. -/
def stsF (f : Fq) : List Int := if sndF f then lstF f else []
theorem sts_yes {f : Fq} (h : sndF f = true) : stsF f = lstF f := by unfold stsF; rw [if_pos h]
theorem sts_no {f : Fq} (h : sndF f = false) : stsF f = [] := by unfold stsF; rw [if_neg (by rw [h]; simp)]
theorem cnt_lt {f : Fq} (h : sndF f = true) (k : Nat) : k < cntF f ↔ nthF f k < f.2.2.1 := by
  obtain ⟨t, a, b, e⟩ := f
  obtain ⟨h1, h2, h3, h4, h5⟩ := snd_iff.1 h
  unfold cntF nthF
  show k < ((b - a - 1) / e + 1).toNat ↔ a + (k : Int) * e < b
  have q0 : 0 ≤ (b - a - 1) / e := Int.ediv_nonneg (by omega) (by omega)
  have q1 : (k : Int) ≤ (b - a - 1) / e ↔ (k : Int) * e ≤ b - a - 1 := Int.le_ediv_iff_mul_le (by omega)
  generalize (b - a - 1) / e = q at q0 q1 ⊢
  generalize (k : Int) * e = m at q1 ⊢
  omega
theorem nth_zero (f : Fq) : nthF f 0 = f.2.1 := by unfold nthF; simp
theorem nth_next (f : Fq) (k : Nat) : nthF f (k + 1) = nthF f k + f.2.2.2 := by
  unfold nthF
  rw [Int.natCast_add, Int.add_mul, Int.natCast_one, Int.one_mul]
  omega
theorem nth_up {f : Fq} (h : sndF f = true) {i k : Nat} (hik : i ≤ k) : nthF f i ≤ nthF f k := by
  obtain ⟨t, a, b, e⟩ := f
  obtain ⟨h1, h2, h3, h4, h5⟩ := snd_iff.1 h
  unfold nthF
  show a + (i : Int) * e ≤ a + (k : Int) * e
  have := Int.mul_le_mul_of_nonneg_right (show (i : Int) ≤ (k : Int) by omega) (show 0 ≤ e by omega)
  omega
theorem nth_strict {f : Fq} (h : sndF f = true) {i k : Nat} (hik : i < k) : nthF f i < nthF f k := by
  have h1 := nth_up h (show i + 1 ≤ k by omega)
  rw [nth_next] at h1
  obtain ⟨t, a, b, e⟩ := f
  have h2 := snd_iff.1 h
  simp only at h1 ⊢
  omega
theorem nth_low {f : Fq} (h : sndF f = true) (k : Nat) : f.2.1 ≤ nthF f k := by
  have := nth_up h (Nat.zero_le k)
  rw [nth_zero] at this
  exact this
theorem cnt_pos {f : Fq} (h : sndF f = true) : 0 < cntF f := by
  rw [cnt_lt h, nth_zero]
  obtain ⟨t, a, b, e⟩ := f
  exact (snd_iff.1 h).2.1
theorem cnt_le {f : Fq} (h : sndF f = true) : cntF f ≤ 172800 := by
  rcases Nat.lt_or_ge 172800 (cntF f) with h1 | h1
  · exfalso
    have h2 := (cnt_lt h 172800).1 h1
    obtain ⟨t, a, b, e⟩ := f
    have h3 := snd_iff.1 h
    unfold nthF at h2
    simp only at h2
    omega
  · exact h1
theorem lst_len (f : Fq) : (lstF f).length = cntF f := by unfold lstF; rw [List.length_map, List.length_range]
theorem sts_le (f : Fq) : (stsF f).length ≤ 172800 := by
  cases h : sndF f with
  | false => rw [sts_no h]; simp
  | true => rw [sts_yes h, lst_len]; exact cnt_le h
theorem lst_at {f : Fq} {k : Nat} (h : k < cntF f) : (lstF f)[k]? = some (nthF f k) := by
  unfold lstF
  rw [List.getElem?_map, List.getElem?_range h]
  rfl
theorem lst_next {f : Fq} {k : Nat} (h : k < cntF f) : (lstF f).take (k + 1) = (lstF f).take k ++ [nthF f k] := take_at _ _ _ (lst_at h)
theorem lst_all (f : Fq) : (lstF f).take (cntF f) = lstF f := List.take_of_length_le (by rw [lst_len]; exact Nat.le_refl _)
theorem lst_pre {f : Fq} (k : Nat) : (lstF f).take k <+: lstF f := List.take_prefix _ _
theorem lst_mem {f : Fq} {x : Int} (h : x ∈ lstF f) : ∃ k, k < cntF f ∧ x = nthF f k := by
  unfold lstF at h
  obtain ⟨k, hk, rfl⟩ := List.mem_map.1 h
  exact ⟨k, List.mem_range.1 hk, rfl⟩
theorem sts_mem {f : Fq} {x : Int} (h : x ∈ stsF f) : sndF f = true ∧ ∃ k, k < cntF f ∧ x = nthF f k := by
  cases hs : sndF f with
  | false => rw [sts_no hs] at h; cases h
  | true => rw [sts_yes hs] at h; exact ⟨rfl, lst_mem h⟩
/-- A start lies in the interval. -/
theorem sts_in {f : Fq} {x : Int} (h : x ∈ stsF f) : f.2.1 ≤ x ∧ x < f.2.2.1 := by
  obtain ⟨hs, k, hk, rfl⟩ := sts_mem h
  exact ⟨nth_low hs k, (cnt_lt hs k).1 hk⟩
theorem sts_nodup (f : Fq) : (stsF f).Nodup := by
  cases hs : sndF f with
  | false => rw [sts_no hs]; exact List.nodup_nil
  | true =>
    rw [sts_yes hs]
    unfold lstF List.Nodup
    rw [List.pairwise_map]
    refine List.Pairwise.imp ?_ (List.pairwise_lt_range (n := cntF f))
    intro i k hik
    have := nth_strict hs hik
    omega

/-! ### The starts of a trip -/
/-- The starts of all frequencies of the trip, one frequency behind the other. -/
def insF (t : Int) (l : List Fq) : List Int := (l.filter fun f => decide (f.1 = t)).flatMap stsF
theorem ins_nil (t : Int) : insF t [] = [] := rfl
theorem ins_app (t : Int) (l m : List Fq) : insF t (l ++ m) = insF t l ++ insF t m := by unfold insF; rw [List.filter_append, List.flatMap_append]
theorem ins_yes {t : Int} {l : List Fq} {k : Nat} {f : Fq} (h : l[k]? = some f) (ht : f.1 = t) : insF t (l.take (k + 1)) = insF t (l.take k) ++ stsF f := by
  have e : insF t [f] = stsF f := by
    unfold insF
    simp [ht]
  rw [take_at l k f h, ins_app, e]
theorem ins_no {t : Int} {l : List Fq} {k : Nat} {f : Fq} (h : l[k]? = some f) (ht : f.1 ≠ t) : insF t (l.take (k + 1)) = insF t (l.take k) := by
  rw [take_at l k f h, ins_app]
  have : insF t [f] = [] := by
    unfold insF
    rw [List.filter_cons_of_neg (by rw [decide_eq_false ht]; simp)]
    rfl
  rw [this, List.append_nil]
theorem ins_le (t : Int) : ∀ l : List Fq, (insF t l).length ≤ l.length * 172800
  | [] => Nat.zero_le _
  | f :: r => by
    have ih := ins_le t r
    have h1 := sts_le f
    have e : insF t (f :: r) = insF t [f] ++ insF t r := ins_app t [f] r
    rw [e, List.length_append, List.length_cons]
    have h2 : (insF t [f]).length ≤ (stsF f).length := by
      unfold insF
      rw [List.filter_cons]
      split
      · simp
      · simp
    omega
theorem ins_mem {t : Int} {l : List Fq} {x : Int} : x ∈ insF t l ↔ ∃ f ∈ l, f.1 = t ∧ x ∈ stsF f := by
  unfold insF
  rw [List.mem_flatMap]
  constructor
  · rintro ⟨f, hf, hx⟩
    obtain ⟨h1, h2⟩ := List.mem_filter.1 hf
    exact ⟨f, h1, of_decide_eq_true h2, hx⟩
  · rintro ⟨f, hf, ht, hx⟩
    exact ⟨f, List.mem_filter.2 ⟨hf, decide_eq_true ht⟩, hx⟩
/-- Whether a frequency has this trip. -/
def repF (t : Int) (l : List Fq) : Bool := l.any fun f => decide (f.1 = t)
theorem rep_hit {t : Int} {l : List Fq} {k : Nat} {f : Fq} (h : l[k]? = some f) (ht : f.1 = t) : repF t l = true := by
  unfold repF
  rw [List.any_eq_true]
  exact ⟨f, List.mem_iff_getElem?.2 ⟨k, h⟩, decide_eq_true ht⟩
theorem rep_no {t : Int} {l : List Fq} (h : ∀ (j : Nat) f, l[j]? = some f → f.1 ≠ t) : repF t l = false := by
  unfold repF
  rw [List.any_eq_false]
  intro f hf
  obtain ⟨j, hj⟩ := List.mem_iff_getElem?.1 hf
  rw [decide_eq_true_iff]
  exact h j f hj

/-! ### How many starts there are in all -/
/-- The number of all starts of sound frequencies. -/
def totF : List Fq → Nat
  | [] => 0
  | f :: r => (stsF f).length + totF r
theorem tot_app : ∀ (l m : List Fq), totF (l ++ m) = totF l + totF m
  | [], m => by rw [List.nil_append]; show _ = 0 + _; omega
  | f :: r, m => by
    rw [List.cons_append]
    show _ + totF (r ++ m) = _ + totF r + _
    rw [tot_app r m]
    omega
theorem tot_next {l : List Fq} {k : Nat} {f : Fq} (h : l[k]? = some f) : totF (l.take (k + 1)) = totF (l.take k) + (stsF f).length := by
  rw [take_at l k f h, tot_app]
  rfl
theorem tot_le : ∀ l : List Fq, totF l ≤ l.length * 172800
  | [] => Nat.zero_le _
  | f :: r => by
    have ih := tot_le r
    have h1 := sts_le f
    rw [List.length_cons]
    show _ + totF r ≤ _
    omega
theorem ins_tot (t : Int) : ∀ l : List Fq, (insF t l).length ≤ totF l
  | [] => Nat.le_refl _
  | f :: r => by
    have ih := ins_tot t r
    have e : insF t (f :: r) = insF t [f] ++ insF t r := ins_app t [f] r
    rw [e, List.length_append]
    show _ ≤ (stsF f).length + totF r
    have h2 : (insF t [f]).length ≤ (stsF f).length := by
      unfold insF
      rw [List.filter_cons]
      split
      · simp
      · simp
    omega
/-- Whether there are too many to be looked at. -/
def mnyF (l : List Fq) (most : Int) : Bool := decide (100 < l.length) || decide (most < (totF l : Int))
theorem mny_long {l : List Fq} {most : Int} (h : 100 < l.length) : mnyF l most = true := by unfold mnyF; rw [decide_eq_true h]; rfl
theorem mny_short {l : List Fq} {most : Int} (h : ¬ 100 < l.length) : mnyF l most = decide (most < (totF l : Int)) := by unfold mnyF; rw [decide_eq_false h]; rfl
theorem mny_no {l : List Fq} {most : Int} (h : mnyF l most = false) : l.length ≤ 100 ∧ (totF l : Int) ≤ most := by
  unfold mnyF at h
  rw [Bool.or_eq_false_iff, decide_eq_false_iff_not, decide_eq_false_iff_not] at h
  omega

/-! ### Calls started at a time -/
/-- The first departure. -/
def dpF (l : List Cl) : Int := (l.head?.getD (0, 0, 0, false, false)).2.2.1
theorem dp_at {l : List Cl} {x : Cl} (h : l[0]? = some x) : dpF l = x.2.2.1 := by
  unfold dpF
  rw [List.head?_eq_getElem?, h]
  rfl
/-- Whether a time, shifted as the first departure is to the start, is from 0 to MaxTime. -/
def inT (d st t : Int) : Bool := decide (0 ≤ t - d + st ∧ t - d + st ≤ 172800)
theorem inT_iff {d st t : Int} : inT d st t = true ↔ (0 ≤ t - d + st ∧ t - d + st ≤ 172800) := by unfold inT; exact decide_eq_true_iff
def fitX (d st : Int) (x : Cl) : Bool := inT d st x.2.1 && inT d st x.2.2.1
theorem fitX_arr {d st : Int} {x : Cl} (h : inT d st x.2.1 = false) : fitX d st x = false := by unfold fitX; rw [h]; rfl
theorem fitX_dep {d st : Int} {x : Cl} (h : inT d st x.2.2.1 = false) : fitX d st x = false := by unfold fitX; rw [h, Bool.and_false]
theorem fitX_yes {d st : Int} {x : Cl} (h : inT d st x.2.1 = true) (k : inT d st x.2.2.1 = true) : fitX d st x = true := by unfold fitX; rw [h, k]; rfl
/-- Whether the start and all times are from 0 to MaxTime. -/
def fitC (l : List Cl) (st : Int) : Bool := decide (0 ≤ st ∧ st ≤ 172800) && l.all (fitX (dpF l) st)
theorem fit_out {l : List Cl} {st : Int} (h : ¬ (0 ≤ st ∧ st ≤ 172800)) : fitC l st = false := by unfold fitC; rw [decide_eq_false h]; rfl
theorem fit_stop {l : List Cl} {st : Int} {k : Nat} {x : Cl} (h : l[k]? = some x) (hx : fitX (dpF l) st x = false) : fitC l st = false := by
  unfold fitC
  rw [show l.all (fitX (dpF l) st) = false from ?_, Bool.and_false]
  rw [List.all_eq_false]
  exact ⟨x, List.mem_iff_getElem?.2 ⟨k, h⟩, by rw [hx]; simp⟩
theorem fit_done {l : List Cl} {st : Int} (h : 0 ≤ st ∧ st ≤ 172800) (hx : ∀ (j : Nat) x, l[j]? = some x → fitX (dpF l) st x = true) : fitC l st = true := by
  unfold fitC
  rw [decide_eq_true h, Bool.true_and, List.all_eq_true]
  intro x hm
  obtain ⟨j, hj⟩ := List.mem_iff_getElem?.1 hm
  exact hx j x hj
theorem fit_is {l : List Cl} {st : Int} (h : fitC l st = true) : (0 ≤ st ∧ st ≤ 172800) ∧ ∀ x ∈ l, fitX (dpF l) st x = true := by
  unfold fitC at h
  rw [Bool.and_eq_true, decide_eq_true_iff, List.all_eq_true] at h
  exact h
/-- What fits at two starts fits at each between them. -/
theorem fit_between {l : List Cl} {a x b : Int} (h1 : fitC l a = true) (h2 : fitC l b = true) (ha : a ≤ x) (hb : x ≤ b) : fitC l x = true := by
  obtain ⟨r1, f1⟩ := fit_is h1
  obtain ⟨r2, f2⟩ := fit_is h2
  unfold fitC
  rw [decide_eq_true (by omega), Bool.true_and, List.all_eq_true]
  intro y hy
  have g1 := f1 y hy
  have g2 := f2 y hy
  unfold fitX at g1 g2 ⊢
  rw [Bool.and_eq_true, inT_iff, inT_iff] at g1 g2 ⊢
  omega
def runX (d st : Int) (x : Cl) : Cl := (x.1, x.2.1 - d + st, x.2.2.1 - d + st, x.2.2.2.1, x.2.2.2.2)
/-- The calls started. -/
def runC (l : List Cl) (st : Int) : List Cl := l.map (runX (dpF l) st)
theorem run_len (l : List Cl) (st : Int) : (runC l st).length = l.length := List.length_map _
theorem run_at' {l : List Cl} {st : Int} {k : Nat} {x : Cl} (h : l[k]? = some x) : (runC l st)[k]? = some (runX (dpF l) st x) := by unfold runC; rw [List.getElem?_map, h]; rfl
theorem run_snoc {l : List Cl} {st : Int} {k : Nat} {x : Cl} (h : l[k]? = some x) : (l.take (k + 1)).map (runX (dpF l) st) = (l.take k).map (runX (dpF l) st) ++ [runX (dpF l) st x] := by
  rw [take_at l k x h, List.map_append]
  rfl
/-- Shifted with wrapping around they are the same. -/
theorem sh_run {l : List Cl} {st : Int} (h : fitC l st = true) : shC (wrap64 (st - dpF l)) l = runC l st := by
  unfold shC runC
  refine List.map_congr_left fun x hx => ?_
  have g := (fit_is h).2 x hx
  unfold fitX at g
  rw [Bool.and_eq_true, inT_iff, inT_iff] at g
  have e1 : wrap64 (x.2.1 + wrap64 (st - dpF l)) = x.2.1 - dpF l + st := by unfold wrap64; omega
  have e2 : wrap64 (x.2.2.1 + wrap64 (st - dpF l)) = x.2.2.1 - dpF l + st := by unfold wrap64; omega
  unfold shX runX
  rw [e1, e2]
/-- What Calls answers. -/
def ansC (l : List Cl) (st : Int) : List Cl := if fitC l st then runC l st else []
def errC (l : List Cl) (st : Int) : Int := if l.length = 0 then 16 else if fitC l st then 0 else 10
theorem ans_no {l : List Cl} {st : Int} (h : fitC l st = false) : ansC l st = [] := by unfold ansC; rw [if_neg (by rw [h]; simp)]
theorem ans_yes {l : List Cl} {st : Int} (h : fitC l st = true) : ansC l st = runC l st := by unfold ansC; rw [if_pos h]
theorem ans_nil {l : List Cl} (st : Int) (h : l.length = 0) : ansC l st = [] := by
  obtain rfl := List.length_eq_zero_iff.1 h
  unfold ansC
  split <;> rfl
theorem err_none {l : List Cl} {st : Int} (h : l.length = 0) : errC l st = 16 := by unfold errC; rw [if_pos h]
theorem err_no {l : List Cl} {st : Int} (h : l.length ≠ 0) (hf : fitC l st = false) : errC l st = 10 := by unfold errC; rw [if_neg h, if_neg (by rw [hf]; simp)]
theorem err_yes {l : List Cl} {st : Int} (h : l.length ≠ 0) (hf : fitC l st = true) : errC l st = 0 := by unfold errC; rw [if_neg h, if_pos hf]
theorem ans_len {l : List Cl} {st : Int} : (ansC l st).length ≤ l.length := by
  unfold ansC
  split
  · exact Nat.le_of_eq (run_len l st)
  · exact Nat.zero_le _

/-! ### The first frequency that is not valid -/
/-- Whether two intervals have a time in common. -/
def ovlF (f g : Fq) : Bool := decide (f.2.1 < g.2.2.1) && decide (g.2.1 < f.2.2.1)
theorem ovl_a {f g : Fq} (h : ¬ f.2.1 < g.2.2.1) : ovlF f g = false := by unfold ovlF; rw [decide_eq_false h]; rfl
theorem ovl_b {f g : Fq} (h : ¬ g.2.1 < f.2.2.1) : ovlF f g = false := by unfold ovlF; rw [decide_eq_false h, Bool.and_false]
theorem ovl_yes {f g : Fq} (h : f.2.1 < g.2.2.1) (k : g.2.1 < f.2.2.1) : ovlF f g = true := by unfold ovlF; rw [decide_eq_true h, decide_eq_true k]; rfl
/-- Whether one of them is of the same trip and has a time in common. -/
def metF (f g : Fq) : Bool := decide (f.1 = g.1) && ovlF f g
theorem met_other {f g : Fq} (h : f.1 ≠ g.1) : metF f g = false := by unfold metF; rw [decide_eq_false h]; rfl
theorem met_same {f g : Fq} (h : f.1 = g.1) : metF f g = ovlF f g := by unfold metF; rw [decide_eq_true h, Bool.true_and]
def hitF (seen : List Fq) (f : Fq) : Bool := seen.any (metF f)
theorem hit_yes {l : List Fq} {f g : Fq} {j : Nat} (h : l[j]? = some g) (hm : metF f g = true) : hitF l f = true := by
  unfold hitF
  rw [List.any_eq_true]
  exact ⟨g, List.mem_iff_getElem?.2 ⟨j, h⟩, hm⟩
theorem hit_no {l : List Fq} {f : Fq} (h : ∀ (j : Nat) g, l[j]? = some g → metF f g = false) : hitF l f = false := by
  unfold hitF
  rw [List.any_eq_false]
  intro g hg
  obtain ⟨j, hj⟩ := List.mem_iff_getElem?.1 hg
  rw [h j g hj]
  simp
theorem hit_next {l : List Fq} {f g : Fq} {j : Nat} (h : l[j]? = some g) : hitF (l.take (j + 1)) f = (hitF (l.take j) f || metF f g) := by
  unfold hitF
  rw [take_at l j g h, List.any_append]
  simp
/-- The last start. -/
def endF (f : Fq) : Int := nthF f (cntF f - 1)
theorem end_at {f : Fq} (h : sndF f = true) : (lstF f)[(lstF f).length - 1]? = some (endF f) := by
  rw [lst_len]
  exact lst_at (by have := cnt_pos h; omega)
theorem first_at {f : Fq} (h : sndF f = true) : (lstF f)[0]? = some f.2.1 := by
  rw [lst_at (cnt_pos h), nth_zero]
/-- Whether the calls fit at all starts. -/
def allF (l : List Cl) (f : Fq) : Bool := fitC l f.2.1 && fitC l (endF f)
theorem allF_first {l : List Cl} {f : Fq} (h : fitC l f.2.1 = false) : allF l f = false := by unfold allF; rw [h]; rfl
theorem allF_last {l : List Cl} {f : Fq} (h : fitC l f.2.1 = true) : allF l f = fitC l (endF f) := by unfold allF; rw [h]; rfl
/-- The calls of the trip that a frequency names. -/
def clsF (ts : List (List Cl)) (f : Fq) : List Cl := (ts[f.1.toNat]?).getD []
theorem cls_at {ts : List (List Cl)} {f : Fq} {c : List Cl} {n : Nat} (hn : f.1 = (n : Int)) (h : ts[n]? = some c) : clsF ts f = c := by
  unfold clsF
  rw [hn, Int.toNat_natCast, h]
  rfl
/-- The error of a frequency behind others. -/
def badF (ts : List (List Cl)) (seen : List Fq) (f : Fq) : Int :=
  if f.1 < 0 ∨ (ts.length : Int) ≤ f.1 then 9 else if sndF f = false ∨ allF (clsF ts f) f = false then 10 else if 256 < (insF f.1 (seen ++ [f])).length then 17 else if hitF seen f then 8 else 0
section
variable {ts : List (List Cl)} {seen : List Fq} {f : Fq}
theorem badF_ref (h : f.1 < 0 ∨ (ts.length : Int) ≤ f.1) : badF ts seen f = 9 := by unfold badF; rw [if_pos h]
theorem badF_sound (h1 : ¬ f.1 < 0) (h2 : ¬ (ts.length : Int) ≤ f.1) (h : sndF f = false) : badF ts seen f = 10 := by unfold badF; rw [if_neg (by omega), if_pos (.inl h)]
theorem badF_time (h1 : ¬ f.1 < 0) (h2 : ¬ (ts.length : Int) ≤ f.1) (h : allF (clsF ts f) f = false) : badF ts seen f = 10 := by
  unfold badF
  rw [if_neg (by omega), if_pos (.inr h)]
theorem badF_many (h1 : ¬ f.1 < 0) (h2 : ¬ (ts.length : Int) ≤ f.1) (h3 : sndF f = true) (h4 : allF (clsF ts f) f = true) (h : 256 < (insF f.1 (seen ++ [f])).length) : badF ts seen f = 17 := by
  unfold badF
  rw [if_neg (by omega), if_neg (by rw [h3, h4]; simp), if_pos h]
theorem badF_met (h1 : ¬ f.1 < 0) (h2 : ¬ (ts.length : Int) ≤ f.1) (h3 : sndF f = true) (h4 : allF (clsF ts f) f = true) (h5 : ¬ 256 < (insF f.1 (seen ++ [f])).length) (h : hitF seen f = true) : badF ts seen f = 8 := by
  unfold badF
  rw [if_neg (by omega), if_neg (by rw [h3, h4]; simp), if_neg h5, if_pos h]
theorem badF_none (h1 : ¬ f.1 < 0) (h2 : ¬ (ts.length : Int) ≤ f.1) (h3 : sndF f = true) (h4 : allF (clsF ts f) f = true) (h5 : ¬ 256 < (insF f.1 (seen ++ [f])).length) (h : hitF seen f = false) : badF ts seen f = 0 := by
  unfold badF
  rw [if_neg (by omega), if_neg (by rw [h3, h4]; simp), if_neg h5, if_neg (by rw [h]; simp)]
theorem badF_good (h : badF ts seen f = 0) : (0 ≤ f.1 ∧ f.1 < (ts.length : Int)) ∧ sndF f = true ∧ allF (clsF ts f) f = true ∧ (insF f.1 (seen ++ [f])).length ≤ 256 ∧ hitF seen f = false := by
  unfold badF at h
  split at h
  · omega
  split at h
  · omega
  next h2 =>
    split at h
    · omega
    split at h
    · omega
    · next h3 h4 =>
      rw [not_or, Bool.not_eq_false, Bool.not_eq_false] at h2
      exact ⟨by omega, h2.1, h2.2, by omega, Bool.eq_false_iff.2 h4⟩
end
/-- What Check answers. -/
def chkF (ts : List (List Cl)) (l : List Fq) : Int × Int := if 64 < l.length then (0, 5) else fbF (badF ts) (fun f => f) [] 0 l
section
variable {ts : List (List Cl)} {l : List Fq} {q : Int × Int} {k : Nat} {f : Fq}
theorem chkF_many (h : 64 < l.length) : chkF ts l = (0, 5) := by unfold chkF; rw [if_pos h]
theorem chkF_start (h : ¬ 64 < l.length) : chkF ts l = fbF (badF ts) (fun f => f) ((l.take 0).map fun f => f) 0 (l.drop 0) := by unfold chkF; rw [if_neg h]; rfl
theorem same_map (l : List Fq) : (l.map fun f => f) = l := List.map_id' l
theorem ck_stopF (hr : q = fbF (badF ts) (fun f => f) ((l.take k).map fun f => f) k (l.drop k)) (h : l[k]? = some f) {e : Int} (hb : badF ts (l.take k) f = e) (he : e ≠ 0) : q = ((k : Int), e) :=
  fb_stop hr h (by rw [same_map]; exact hb) he
theorem ck_nextF (hr : q = fbF (badF ts) (fun f => f) ((l.take k).map fun f => f) k (l.drop k)) (h : l[k]? = some f) (hb : badF ts (l.take k) f = 0) : q = fbF (badF ts) (fun f => f) ((l.take (k + 1)).map fun f => f) (k + 1) (l.drop (k + 1)) :=
  fb_next hr h (by rw [same_map]; exact hb)
theorem ck_doneF (hr : q = fbF (badF ts) (fun f => f) ((l.take k).map fun f => f) k (l.drop k)) (h : l.length ≤ k) : q = (0, 0) := fb_done hr h
end

/-! ### What follows for accepted frequencies -/
theorem fb_acc {κ α : Type} {bad : List κ → α → Int} {key : α → κ} : ∀ (l : List α) (seen : List κ) (k : Nat), (fbF bad key seen k l).2 = 0 → ∀ (j : Nat) x, l[j]? = some x → bad (seen ++ (l.take j).map key) x = 0
  | [], _, _, _, j, x, h => by simp at h
  | y :: r, seen, k, hz, j, x, h => by
    unfold fbF at hz
    by_cases hb : bad seen y = 0
    · rw [if_pos hb] at hz
      cases j with
      | zero =>
        simp at h
        subst h
        simpa using hb
      | succ j =>
        rw [List.getElem?_cons_succ] at h
        have := fb_acc r (seen ++ [key y]) (k + 1) hz j x h
        rw [List.append_assoc] at this
        exact this
    · rw [if_neg hb] at hz
      exact absurd hz hb
section
variable {ts : List (List Cl)} {l : List Fq}
theorem acc_good (h : (chkF ts l).2 = 0) : ∀ (j : Nat) f, l[j]? = some f → badF ts (l.take j) f = 0 := by
  unfold chkF at h
  split at h
  · cases h
  · intro j f hf
    have := fb_acc l [] 0 h j f hf
    rw [List.nil_append, same_map] at this
    exact this
theorem acc_few (h : (chkF ts l).2 = 0) : l.length ≤ 64 := by
  unfold chkF at h
  split at h
  · cases h
  · omega
theorem acc_len (h : (chkF ts l).2 = 0) (t : Int) : ∀ k, k ≤ l.length → (insF t (l.take k)).length ≤ 256
  | 0, _ => Nat.zero_le _
  | k + 1, hk => by
    obtain ⟨f, hf⟩ := at_lt (show k < l.length by omega)
    have ih := acc_len h t k (by omega)
    by_cases ht : f.1 = t
    · have g := (badF_good (acc_good h k f hf)).2.2.2.1
      rw [ht, ← take_at l k f hf] at g
      exact g
    · rw [ins_no hf ht]
      exact ih
theorem acc_most (h : (chkF ts l).2 = 0) (t : Int) : (insF t l).length ≤ 256 := by
  have := acc_len h t l.length (Nat.le_refl _)
  rw [List.take_length] at this
  exact this
theorem acc_apart (h : (chkF ts l).2 = 0) (t : Int) : ∀ k, k ≤ l.length → (insF t (l.take k)).Nodup
  | 0, _ => List.nodup_nil
  | k + 1, hk => by
    obtain ⟨f, hf⟩ := at_lt (show k < l.length by omega)
    have ih := acc_apart h t k (by omega)
    by_cases ht : f.1 = t
    · have g := (badF_good (acc_good h k f hf)).2.2.2.2
      rw [ins_yes hf ht, List.nodup_append]
      refine ⟨ih, sts_nodup f, fun x hx y hy => ?_⟩
      rintro rfl
      obtain ⟨e, he, het, hxe⟩ := ins_mem.1 hx
      obtain ⟨j, hj⟩ := List.mem_iff_getElem?.1 he
      have a := sts_in hxe
      have b := sts_in hy
      have : hitF (l.take k) f = true := hit_yes hj (by rw [met_same (by omega)]; exact ovl_yes (by omega) (by omega))
      rw [g] at this
      cases this
    · rw [ins_no hf ht]
      exact ih
theorem acc_nodup (h : (chkF ts l).2 = 0) (t : Int) : (insF t l).Nodup := by
  have := acc_apart h t l.length (Nat.le_refl _)
  rw [List.take_length] at this
  exact this
theorem acc_rep (h : (chkF ts l).2 = 0) (t : Int) : decide (0 < (insF t l).length) = repF t l := by
  cases hr : repF t l with
  | true =>
    unfold repF at hr
    obtain ⟨f, hf, ht⟩ := List.any_eq_true.1 hr
    obtain ⟨j, hj⟩ := List.mem_iff_getElem?.1 hf
    have hs := (badF_good (acc_good h j f hj)).2.1
    have : f.2.1 ∈ insF t l := ins_mem.2 ⟨f, hf, of_decide_eq_true ht, by
      rw [sts_yes hs]
      exact List.mem_iff_getElem?.2 ⟨0, first_at hs⟩⟩
    exact decide_eq_true (List.length_pos_of_mem this)
  | false =>
    refine decide_eq_false fun hp => ?_
    obtain ⟨x, hx⟩ := List.exists_mem_of_length_pos hp
    obtain ⟨f, hf, ht, _⟩ := ins_mem.1 hx
    unfold repF at hr
    rw [List.any_eq_false] at hr
    exact hr f hf (decide_eq_true ht)
theorem acc_fits (h : (chkF ts l).2 = 0) {n : Nat} {c : List Cl} (hc : ts[n]? = some c) {x : Int} (hx : x ∈ insF (n : Int) l) : fitC c x = true := by
  obtain ⟨f, hf, ht, hs⟩ := ins_mem.1 hx
  obtain ⟨j, hj⟩ := List.mem_iff_getElem?.1 hf
  have g := (badF_good (acc_good h j f hj)).2.2.1
  rw [cls_at ht hc] at g
  unfold allF at g
  rw [Bool.and_eq_true] at g
  obtain ⟨s1, k, hk, rfl⟩ := sts_mem hs
  exact fit_between g.1 g.2 (nth_low s1 k) (nth_up s1 (by omega))
end
end Go.Proofs.YtkhalnjgbdpfhaaGreat
namespace Go.Proofs.YtkhalnjgbdpfhaaGreat
open Go

/-! ### The indices of all with a property -/
theorem ixF_split {α : Type} (p : α → Bool) : ∀ (a b : List α) (k : Nat), ixF p k (a ++ b) = ixF p k a ++ ixF p (k + a.length) b
  | [], b, k => rfl
  | x :: a, b, k => by
    have ih := ixF_split p a b (k + 1)
    rw [List.cons_append]
    have e : k + 1 + a.length = k + (x :: a).length := by rw [List.length_cons]; omega
    show (if p x then (k : Int) :: ixF p (k + 1) (a ++ b) else ixF p (k + 1) (a ++ b)) = (if p x then (k : Int) :: ixF p (k + 1) a else ixF p (k + 1) a) ++ ixF p (k + (x :: a).length) b
    rw [ih, e]
    split <;> rfl
theorem ix_nth {α : Type} {p : α → Bool} {l : List α} {i : Nat} {x : α} (h : l[i]? = some x) (hp : p x = true) : (ixs p l)[(ixs p (l.take i)).length]? = some (i : Int) := by
  have h1 : ixs p l = ixs p (l.take (i + 1)) ++ ixF p (0 + (l.take (i + 1)).length) (l.drop (i + 1)) := by
    conv => lhs; rw [← List.take_append_drop (i + 1) l]
    exact ixF_split p _ _ 0
  rw [h1, ix_hit h hp, List.append_assoc, List.getElem?_append_right (Nat.le_refl _), Nat.sub_self]
  rfl
theorem ix_val {α : Type} {p : α → Bool} {l : List α} {i : Nat} {z : Int} (h : (ixs p l)[i]? = some z) : ∃ (j : Nat) (x : α), z = (j : Int) ∧ l[j]? = some x ∧ p x = true := by
  have F : ∀ (l : List α) (k i : Nat), (ixF p k l)[i]? = some z → ∃ (j : Nat) (x : α), z = ((k + j : Nat) : Int) ∧ l[j]? = some x ∧ p x = true := by
    intro l
    induction l with
    | nil => intro k i h; simp [ixF] at h
    | cons y r ih =>
      intro k i h
      unfold ixF at h
      by_cases hp : p y = true
      · rw [if_pos hp] at h
        cases i with
        | zero =>
          simp at h
          exact ⟨0, y, by rw [← h]; rfl, rfl, hp⟩
        | succ i =>
          rw [List.getElem?_cons_succ] at h
          obtain ⟨j, x, h1, h2, h3⟩ := ih (k + 1) i h
          exact ⟨j + 1, x, by rw [h1]; congr 1; omega, h2, h3⟩
      · rw [if_neg hp] at h
        obtain ⟨j, x, h1, h2, h3⟩ := ih (k + 1) i h
        exact ⟨j + 1, x, by rw [h1]; congr 1; omega, h2, h3⟩
  obtain ⟨j, x, h1, h2, h3⟩ := F l 0 i h
  exact ⟨j, x, by rw [Nat.zero_add] at h1; exact h1, h2, h3⟩
theorem ixF_asc {α : Type} (p : α → Bool) : ∀ (l : List α) (k : Nat), (∀ z ∈ ixF p k l, (k : Int) ≤ z) ∧ (ixF p k l).Pairwise (· < ·)
  | [], _ => ⟨fun z h => (by cases h), List.Pairwise.nil⟩
  | y :: r, k => by
    obtain ⟨h1, h2⟩ := ixF_asc p r (k + 1)
    unfold ixF
    split
    · refine ⟨fun z hz => ?_, List.Pairwise.cons (fun z hz => ?_) h2⟩
      · rcases List.mem_cons.1 hz with rfl | hz
        · exact Int.le_refl _
        · have := h1 z hz
          omega
      · have := h1 z hz
        omega
    · exact ⟨fun z hz => by have := h1 z hz; omega, h2⟩
/-- They ascend. -/
theorem ix_asc {α : Type} {p : α → Bool} {l : List α} {i j : Nat} {a b : Int} (hi : (ixs p l)[i]? = some a) (hj : (ixs p l)[j]? = some b) (h : i < j) : a < b := by
  have hp := (ixF_asc p l 0).2
  obtain ⟨h1, rfl⟩ := List.getElem?_eq_some_iff.1 hi
  obtain ⟨h2, rfl⟩ := List.getElem?_eq_some_iff.1 hj
  exact List.pairwise_iff_getElem.1 hp i j h1 h2 h

/-! ### The first bad one of a beginning -/
theorem fb_take {κ α : Type} {bad : List κ → α → Int} {key : α → κ} : ∀ (l : List α) (seen : List κ) (k j : Nat), (fbF bad key seen k l).2 = 0 → (fbF bad key seen k (l.take j)).2 = 0
  | l, seen, k, 0, _ => by rw [List.take_zero]; rfl
  | [], seen, k, j + 1, _ => rfl
  | x :: r, seen, k, j + 1, h => by
    rw [List.take_succ_cons]
    unfold fbF at h ⊢
    by_cases hb : bad seen x = 0
    · rw [if_pos hb] at h ⊢
      exact fb_take r _ _ j h
    · rw [if_neg hb] at h
      exact absurd h hb
theorem fb_good {κ α : Type} {bad : List κ → α → Int} {key : α → κ} : ∀ (r l : List α) (k : Nat), l.drop k = r → (fbF bad key ((l.take k).map key) k r).2 = 0 → ∀ (j : Nat) (x : α), k ≤ j → l[j]? = some x → bad ((l.take j).map key) x = 0
  | [], l, k, hd, _, j, x, hk, hx => by
    have h1 := (List.getElem?_eq_some_iff.1 hx).1
    have h2 := congrArg List.length hd
    rw [List.length_drop, List.length_nil] at h2
    omega
  | y :: r, l, k, hd, h, j, x, hk, hx => by
    have hy : l[k]? = some y := by
      have h0 : (l.drop k)[0]? = some y := by rw [hd]; rfl
      rw [List.getElem?_drop] at h0
      exact h0
    have hr : l.drop (k + 1) = r := by
      rw [drop_at l k y hy] at hd
      exact (List.cons.inj hd).2
    unfold fbF at h
    by_cases hb : bad ((l.take k).map key) y = 0
    · rw [if_pos hb, ← key_take hy] at h
      rcases Nat.lt_or_ge k j with hlt | hge
      · exact fb_good r l (k + 1) hr h j x hlt hx
      · obtain rfl : j = k := by omega
        rw [hy] at hx
        obtain rfl := Option.some.inj hx
        exact hb
    · rw [if_neg hb] at h
      exact absurd h hb
end Go.Proofs.YtkhalnjgbdpfhaaGreat
