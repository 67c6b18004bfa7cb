/-
  Plain facts about identifiers: their form, the bytewise order, the first bad element of a list, sorted sections of a table: no program. Condition: none beyond each theorem's own hypotheses.
-/
import Derived.Test.YtkpmmojfnhfflaaDigits
namespace Go.Proofs.Ytkpmmojfnhfflaa
open Go

/-! ### The form -/
/-- A byte that an identifier may hold. -/
def idB (c : UInt8) : Bool := decide ((65 ≤ c.toNat ∧ c.toNat ≤ 90) ∨ (97 ≤ c.toNat ∧ c.toNat ≤ 122) ∨ (48 ≤ c.toNat ∧ c.toNat ≤ 57) ∨ c.toNat = 45 ∨ c.toNat = 95 ∨ c.toNat = 46)
/-- An identifier. -/
def validB (l : List UInt8) : Bool := decide (1 ≤ l.length) && decide (l.length ≤ 32) && l.all idB
theorem valid_iff (l : List UInt8) : validB l = true ↔ (1 ≤ l.length ∧ l.length ≤ 32) ∧ l.all idB = true := by
  unfold validB
  rw [Bool.and_eq_true, Bool.and_eq_true, decide_eq_true_iff, decide_eq_true_iff]

/-! ### The bytewise order -/
/-- -1, 0 or 1. -/
def cmpL : List UInt8 → List UInt8 → Int
  | [], [] => 0
  | [], _ :: _ => -1
  | _ :: _, [] => 1
  | a :: x, b :: y => if a.toNat < b.toNat then -1 else if b.toNat < a.toNat then 1 else cmpL x y
theorem cmp_self : ∀ a : List UInt8, cmpL a a = 0
  | [] => rfl
  | a :: x => by
    unfold cmpL
    rw [if_neg (Nat.lt_irrefl _), if_neg (Nat.lt_irrefl _)]
    exact cmp_self x
theorem cmp_three : ∀ a b : List UInt8, cmpL a b = -1 ∨ cmpL a b = 0 ∨ cmpL a b = 1
  | [], [] => Or.inr (Or.inl rfl)
  | [], _ :: _ => Or.inl rfl
  | _ :: _, [] => Or.inr (Or.inr rfl)
  | a :: x, b :: y => by
    unfold cmpL
    split
    · exact Or.inl rfl
    · split
      · exact Or.inr (Or.inr rfl)
      · exact cmp_three x y
theorem cmp_neg : ∀ a b : List UInt8, cmpL b a = -cmpL a b
  | [], [] => rfl
  | [], _ :: _ => rfl
  | _ :: _, [] => rfl
  | a :: x, b :: y => by
    unfold cmpL
    by_cases h1 : a.toNat < b.toNat
    · rw [if_pos h1, if_neg (by omega), if_pos h1]; rfl
    · by_cases h2 : b.toNat < a.toNat
      · rw [if_pos h2, if_neg h1, if_pos h2]
      · rw [if_neg h2, if_neg h1, if_neg h1, if_neg h2]
        exact cmp_neg x y
theorem cmp_eq : ∀ a b : List UInt8, cmpL a b = 0 → a = b
  | [], [], _ => rfl
  | [], _ :: _, h => by simp [cmpL] at h
  | _ :: _, [], h => by simp [cmpL] at h
  | a :: x, b :: y, h => by
    unfold cmpL at h
    by_cases h1 : a.toNat < b.toNat
    · rw [if_pos h1] at h; simp at h
    · by_cases h2 : b.toNat < a.toNat
      · rw [if_neg h1, if_pos h2] at h; simp at h
      · rw [if_neg h1, if_neg h2] at h
        have hab : a = b := UInt8.toNat_inj.1 (by omega)
        rw [hab, cmp_eq x y h]
theorem cmp_iff (a b : List UInt8) : cmpL a b = 0 ↔ a = b := ⟨cmp_eq a b, fun h => h ▸ cmp_self a⟩
/-- The one comes before the other. -/
def ltL (a b : List UInt8) : Prop := cmpL a b = -1
theorem lt_cons (a b : UInt8) (x y : List UInt8) : ltL (a :: x) (b :: y) ↔ a.toNat < b.toNat ∨ (a.toNat = b.toNat ∧ ltL x y) := by
  unfold ltL
  constructor
  · intro h
    unfold cmpL at h
    by_cases h1 : a.toNat < b.toNat
    · exact Or.inl h1
    · by_cases h2 : b.toNat < a.toNat
      · rw [if_neg h1, if_pos h2] at h; simp at h
      · rw [if_neg h1, if_neg h2] at h
        exact Or.inr ⟨by omega, h⟩
  · intro h
    unfold cmpL
    rcases h with h | ⟨h, h2⟩
    · rw [if_pos h]
    · rw [if_neg (by omega), if_neg (by omega)]
      exact h2
theorem lt_trans : ∀ a b c : List UInt8, ltL a b → ltL b c → ltL a c
  | [], [], _, h, _ => by simp [ltL, cmpL] at h
  | [], _ :: _, [], _, h => by simp [ltL, cmpL] at h
  | [], _ :: _, _ :: _, _, _ => rfl
  | _ :: _, [], _, h, _ => by simp [ltL, cmpL] at h
  | _ :: _, _ :: _, [], _, h => by simp [ltL, cmpL] at h
  | a :: x, b :: y, c :: z, h1, h2 => by
    rw [lt_cons] at h1 h2 ⊢
    rcases h1 with h1 | ⟨h1, k1⟩
    · rcases h2 with h2 | ⟨h2, k2⟩
      · exact Or.inl (by omega)
      · exact Or.inl (by omega)
    · rcases h2 with h2 | ⟨h2, k2⟩
      · exact Or.inl (by omega)
      · exact Or.inr ⟨by omega, lt_trans x y z k1 k2⟩
theorem lt_irrefl (a : List UInt8) : ¬ ltL a a := by
  unfold ltL
  rw [cmp_self]
  decide
theorem lt_flip (a b : List UInt8) : cmpL a b = 1 ↔ ltL b a := by
  unfold ltL
  rw [cmp_neg a b]
  omega
theorem cmp_le (a b : List UInt8) : cmpL a b ≤ 0 ↔ ltL a b ∨ a = b := by
  unfold ltL
  rw [← cmp_iff]
  have := cmp_three a b
  omega
theorem cmp_trans (a b c : List UInt8) (h1 : cmpL a b ≤ 0) (h2 : cmpL b c ≤ 0) : cmpL a c ≤ 0 := by
  rw [cmp_le] at *
  rcases h1 with h1 | rfl
  · rcases h2 with h2 | rfl
    · exact Or.inl (lt_trans a b c h1 h2)
    · exact Or.inl h1
  · exact h2
theorem cmp_drop : ∀ (k : Nat) (a b : List UInt8), a.take k = b.take k → cmpL a b = cmpL (a.drop k) (b.drop k)
  | 0, _, _, _ => rfl
  | k + 1, [], [], _ => rfl
  | k + 1, [], _ :: _, h => by simp at h
  | k + 1, _ :: _, [], h => by simp at h
  | k + 1, a :: x, b :: y, h => by
    simp only [List.take_succ_cons, List.cons.injEq] at h
    obtain ⟨rfl, h⟩ := h
    conv => lhs; unfold cmpL
    rw [if_neg (Nat.lt_irrefl _), if_neg (Nat.lt_irrefl _)]
    exact cmp_drop k x y h

/-! ### The first bad element -/
/-- The index and the number of the error of the first bad element, when those before index k are good. -/
def uniqFrom (l : List (List UInt8)) : Nat → Nat → Int × Int
  | 0, _ => (0, 0)
  | f + 1, k => match l[k]? with
    | none => (0, 0)
    | some x => if validB x = false then (k, 12) else if x ∈ l.take k then (k, 6) else uniqFrom l f (k + 1)
/-- What Unique answers. -/
def uniqR (l : List (List UInt8)) : Int × Int := uniqFrom l (l.length + 1) 0
theorem uniq_end (l : List (List UInt8)) (f k : Nat) (h : l.length ≤ k) : uniqFrom l f k = (0, 0) := by
  cases f with
  | zero => rfl
  | succ f => unfold uniqFrom; rw [List.getElem?_eq_none h]
theorem uniq_name (l : List (List UInt8)) (f k : Nat) (x : List UInt8) (h : l[k]? = some x) (hv : validB x = false) : uniqFrom l (f + 1) k = ((k : Int), (12 : Int)) := by
  unfold uniqFrom
  rw [h]
  simp only []
  rw [if_pos hv]
theorem uniq_twice (l : List (List UInt8)) (f k : Nat) (x : List UInt8) (h : l[k]? = some x) (hv : validB x = true) (hm : x ∈ l.take k) : uniqFrom l (f + 1) k = ((k : Int), (6 : Int)) := by
  unfold uniqFrom
  rw [h]
  simp only []
  rw [if_neg (by simp [hv]), if_pos hm]
theorem uniq_good (l : List (List UInt8)) (f k : Nat) (x : List UInt8) (h : l[k]? = some x) (hv : validB x = true) (hm : x ∉ l.take k) : uniqFrom l (f + 1) k = uniqFrom l f (k + 1) := by
  conv => lhs; unfold uniqFrom
  rw [h]
  simp only []
  rw [if_neg (by simp [hv]), if_neg hm]
theorem uniq_ok : ∀ (f : Nat) (l : List (List UInt8)) (k : Nat), l.length + 1 ≤ f + k → (uniqFrom l f k).2 = 0 → ∀ (j : Nat) x, k ≤ j → l[j]? = some x → validB x = true ∧ x ∉ l.take j
  | 0, l, k, hf, _, j, x, hj, hx => by
    have := (List.getElem?_eq_some_iff.1 hx).1
    omega
  | f + 1, l, k, hf, h, j, x, hj, hx => by
    have hjl := (List.getElem?_eq_some_iff.1 hx).1
    obtain ⟨y, hy⟩ : ∃ y, l[k]? = some y := ⟨l[k]'(by omega), List.getElem?_eq_getElem (by omega)⟩
    cases hv : validB y with
    | false => rw [uniq_name l f k y hy hv] at h; simp at h
    | true =>
      by_cases hm : y ∈ l.take k
      · rw [uniq_twice l f k y hy hv hm] at h; simp at h
      · rw [uniq_good l f k y hy hv hm] at h
        by_cases hjk : j = k
        · subst hjk
          rw [hy] at hx
          obtain rfl := Option.some.inj hx
          exact ⟨hv, hm⟩
        · exact uniq_ok f l (k + 1) (by omega) h j x (by omega) hx
/-- A list of different identifiers. -/
def Good5 (l : List (List UInt8)) : Prop := (uniqR l).2 = 0
theorem good_valid {l : List (List UInt8)} (h : Good5 l) {j : Nat} {x : List UInt8} (hx : l[j]? = some x) : validB x = true := (uniq_ok _ l 0 (by omega) h j x (Nat.zero_le _) hx).1
theorem good_diff {l : List (List UInt8)} (h : Good5 l) {i j : Nat} {x : List UInt8} (hi : l[i]? = some x) (hj : l[j]? = some x) : i = j := by
  have a1 := fun h2 : i < j => (uniq_ok _ l 0 (by omega) h j x (Nat.zero_le _) hj).2 (List.mem_iff_getElem?.2 ⟨i, by rw [List.getElem?_take, if_pos h2]; exact hi⟩)
  have a2 := fun h2 : j < i => (uniq_ok _ l 0 (by omega) h i x (Nat.zero_le _) hi).2 (List.mem_iff_getElem?.2 ⟨j, by rw [List.getElem?_take, if_pos h2]; exact hj⟩)
  rcases Nat.lt_trichotomy i j with h2 | h2 | h2
  · exact absurd h2 a1
  · exact h2
  · exact absurd h2 a2
/-- The name at an index. -/
def nameAt (l : List (List UInt8)) (i : Nat) : List UInt8 := l.getD i []

/-! ### Sorted indices -/
/-- In strictly increasing order of the names. -/
def Rises (l : List (List UInt8)) (o : List Nat) : Prop := o.Pairwise fun i j => ltL (nameAt l i) (nameAt l j)
theorem rises_unique (l : List (List UInt8)) : ∀ (a b : List Nat), Rises l a → Rises l b → (∀ i, i ∈ a ↔ i ∈ b) → a = b
  | [], [], _, _, _ => rfl
  | [], y :: b, _, _, h => by have := (h y).2 (by simp); cases this
  | x :: a, [], _, _, h => by have := (h x).1 (by simp); cases this
  | x :: a, y :: b, ha, hb, h => by
    unfold Rises at ha hb
    rw [List.pairwise_cons] at ha hb
    have hxy : x = y := by
      rcases List.mem_cons.1 ((h x).1 (by simp)) with e | hx
      · exact e
      · rcases List.mem_cons.1 ((h y).2 (by simp)) with e | hy
        · exact e.symm
        · exact absurd (lt_trans _ _ _ (hb.1 x hx) (ha.1 y hy)) (lt_irrefl _)
    subst hxy
    have hna : x ∉ a := fun hm => lt_irrefl _ (ha.1 x hm)
    have hnb : x ∉ b := fun hm => lt_irrefl _ (hb.1 x hm)
    rw [rises_unique l a b ha.2 hb.2 (fun i => ?_)]
    constructor
    · intro hi
      rcases List.mem_cons.1 ((h i).1 (List.mem_cons_of_mem _ hi)) with e | hm
      · subst e; exact absurd hi hna
      · exact hm
    · intro hi
      rcases List.mem_cons.1 ((h i).2 (List.mem_cons_of_mem _ hi)) with e | hm
      · subst e; exact absurd hi hnb
      · exact hm
/-- An index put into its place behind the first k. -/
theorem rises_put (l : List (List UInt8)) (o : List Nat) (i k : Nat) (ho : Rises l o) (h1 : ∀ j x, j < k → o[j]? = some x → ltL (nameAt l x) (nameAt l i)) (h2 : ∀ x, o[k]? = some x → ltL (nameAt l i) (nameAt l x)) :
    Rises l (o.take k ++ i :: o.drop k) := by
  unfold Rises at *
  have hsplit : (o.take k ++ o.drop k).Pairwise fun i j => ltL (nameAt l i) (nameAt l j) := by rw [List.take_append_drop]; exact ho
  rw [List.pairwise_append] at hsplit ⊢
  obtain ⟨p1, p2, p3⟩ := hsplit
  have hd : ∀ x ∈ o.drop k, ltL (nameAt l i) (nameAt l x) := by
    intro x hx
    cases hdk : o.drop k with
    | nil => rw [hdk] at hx; cases hx
    | cons y r =>
      have hyk : o[k]? = some y := by
        have : (o.drop k)[0]? = some y := by rw [hdk]; rfl
        rw [List.getElem?_drop, Nat.add_zero] at this
        exact this
      rw [hdk] at hx p2
      rw [List.pairwise_cons] at p2
      rcases List.mem_cons.1 hx with rfl | hx
      · exact h2 _ hyk
      · exact lt_trans _ _ _ (h2 y hyk) (p2.1 x hx)
  refine ⟨p1, ?_, ?_⟩
  · rw [List.pairwise_cons]
    exact ⟨hd, p2⟩
  · intro x hx y hy
    have hxi : ltL (nameAt l x) (nameAt l i) := by
      obtain ⟨j, hj⟩ := List.mem_iff_getElem?.1 hx
      rw [List.getElem?_take] at hj
      split at hj
      · next hlt => exact h1 j x hlt hj
      · cases hj
    rcases List.mem_cons.1 hy with rfl | hy
    · exact hxi
    · exact p3 x hx y hy
theorem mem_put (o : List Nat) (i k x : Nat) : x ∈ o.take k ++ i :: o.drop k ↔ x = i ∨ x ∈ o := by
  rw [List.mem_append, List.mem_cons]
  constructor
  · rintro (h | h | h)
    · exact Or.inr (List.mem_of_mem_take h)
    · exact Or.inl h
    · exact Or.inr (List.mem_of_mem_drop h)
  · rintro (h | h)
    · exact Or.inr (Or.inl h)
    · rw [← List.take_append_drop k o, List.mem_append] at h
      rcases h with h | h
      · exact Or.inl h
      · exact Or.inr (Or.inr h)
/-- The name begins with p. -/
def beginsB (p x : List UInt8) : Bool := p.isPrefixOf x
/-- The indices of the names that begin with p, in the order of the names. -/
def Section (l : List (List UInt8)) (p : List UInt8) (o : List Nat) : Prop := Rises l o ∧ ∀ i, i ∈ o ↔ i < l.length ∧ beginsB p (nameAt l i) = true
theorem section_unique {l : List (List UInt8)} {p : List UInt8} {a b : List Nat} (ha : Section l p a) (hb : Section l p b) : a = b :=
  rises_unique l a b ha.1 hb.1 fun i => (ha.2 i).trans (hb.2 i).symm
theorem begins_nil (x : List UInt8) : beginsB [] x = true := rfl
end Go.Proofs.Ytkpmmojfnhfflaa
