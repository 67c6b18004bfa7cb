/-
  Plain facts about lists of any kind: the first bad one behind the keys of the earlier ones, the first one with a property, the indices of all with a property, a list told apart into two: no program. Condition: none beyond each theorem's own hypotheses.
-/
import Derived.Test.YtkpmmojfnhfflaaDigits
namespace Go.Proofs.Ytkpmmojfnhfflaa
open Go

/-! ### The first bad one of a list -/
section
variable {κ α : Type}
/-- The first bad one from here on, behind those with these keys. -/
def fbF (bad : List κ → α → Int) (key : α → κ) (seen : List κ) (k : Nat) : List α → Int × Int
  | [] => (0, 0)
  | x :: r => if bad seen x = 0 then fbF bad key (seen ++ [key x]) (k + 1) r else ((k : Int), bad seen x)
variable {bad : List κ → α → Int} {key : α → κ}
theorem key_take {l : List α} {k : Nat} {x : α} (h : l[k]? = some x) : (l.take (k + 1)).map key = (l.take k).map key ++ [key x] := by
  rw [take_at l k x h, List.map_append]
  rfl
theorem fb_next {l : List α} {k : Nat} {x : α} {q : Int × Int} (hr : q = fbF bad key ((l.take k).map key) k (l.drop k)) (h : l[k]? = some x) (hb : bad ((l.take k).map key) x = 0) : q = fbF bad key ((l.take (k + 1)).map key) (k + 1) (l.drop (k + 1)) := by
  rw [hr, drop_at l k x h, key_take h]
  conv => lhs; unfold fbF
  rw [if_pos hb]
theorem fb_stop {l : List α} {k : Nat} {x : α} {q : Int × Int} (hr : q = fbF bad key ((l.take k).map key) k (l.drop k)) (h : l[k]? = some x) {e : Int} (hb : bad ((l.take k).map key) x = e) (he : e ≠ 0) : q = ((k : Int), e) := by
  rw [hr, drop_at l k x h]
  unfold fbF
  rw [if_neg (by rw [hb]; exact he), hb]
theorem fb_done {l : List α} {k : Nat} {q : Int × Int} (hr : q = fbF bad key ((l.take k).map key) k (l.drop k)) (h : l.length ≤ k) : q = (0, 0) := by
  rw [hr, List.drop_of_length_le h]
  rfl
theorem keys_mem {l : List α} {c : κ} : c ∈ l.map key ↔ ∃ (j : Nat) (x : α), l[j]? = some x ∧ key x = c := by
  rw [List.mem_map]
  constructor
  · rintro ⟨x, hx, rfl⟩
    obtain ⟨j, hj⟩ := List.mem_iff_getElem?.1 hx
    exact ⟨j, x, hj, rfl⟩
  · rintro ⟨j, x, hx, rfl⟩
    exact ⟨x, List.mem_iff_getElem?.2 ⟨j, hx⟩, rfl⟩
theorem keys_take {l : List α} {c : κ} {k : Nat} : c ∈ (l.take k).map key ↔ ∃ (j : Nat) (x : α), j < k ∧ l[j]? = some x ∧ key x = c := by
  rw [keys_mem]
  constructor
  · rintro ⟨j, x, hx, h⟩
    rw [List.getElem?_take] at hx
    split at hx
    · next hj => exact ⟨j, x, hj, hx, h⟩
    · cases hx
  · rintro ⟨j, x, hj, hx, h⟩
    exact ⟨j, x, by rw [List.getElem?_take, if_pos hj]; exact hx, h⟩
theorem keys_hit {l : List α} {c : κ} {k j : Nat} {x : α} (hj : j < k) (hx : l[j]? = some x) (h : key x = c) : c ∈ (l.take k).map key := keys_take.2 ⟨j, x, hj, hx, h⟩
theorem keys_none {l : List α} {c : κ} {k : Nat} (h : ∀ (j : Nat) (x : α), j < k → l[j]? = some x → key x ≠ c) : c ∉ (l.take k).map key := fun hm => by
  obtain ⟨j, x, hj, hx, hc⟩ := keys_take.1 hm
  exact h j x hj hx hc
end

/-! ### The first with a property -/
section
variable {α : Type}
/-- The index of the first with the property from here on, or -1. -/
def fdF (p : α → Bool) (k : Nat) : List α → Int
  | [] => -1
  | x :: r => if p x then (k : Int) else fdF p (k + 1) r
/-- The index of the first with the property, or -1. -/
def fdT (p : α → Bool) (l : List α) : Int := fdF p 0 l
variable {p : α → Bool}
theorem fd_start (l : List α) : fdT p l = fdF p 0 (l.drop 0) := rfl
theorem fd_hit {q : Int} {l : List α} {k : Nat} {x : α} (hr : q = fdF p k (l.drop k)) (h : l[k]? = some x) (hp : p x = true) : q = (k : Int) := by
  rw [hr, drop_at l k x h]
  unfold fdF
  rw [if_pos hp]
theorem fd_miss {q : Int} {l : List α} {k : Nat} {x : α} (hr : q = fdF p k (l.drop k)) (h : l[k]? = some x) (hp : p x = false) : q = fdF p (k + 1) (l.drop (k + 1)) := by
  rw [hr, drop_at l k x h]
  conv => lhs; unfold fdF
  rw [if_neg (by rw [hp]; simp)]
theorem fd_end {q : Int} {l : List α} {k : Nat} (hr : q = fdF p k (l.drop k)) (h : l.length ≤ k) : q = -1 := by
  rw [hr, List.drop_of_length_le h]
  rfl
theorem fdF_range (p : α → Bool) : ∀ (l : List α) (k : Nat), fdF p k l = -1 ∨ ((k : Int) ≤ fdF p k l ∧ fdF p k l < ((k + l.length : Nat) : Int))
  | [], _ => .inl rfl
  | x :: r, k => by
    unfold fdF
    split
    · exact .inr ⟨Int.le_refl _, by simp; omega⟩
    · rcases fdF_range p r (k + 1) with h | ⟨h1, h2⟩
      · exact .inl h
      · exact .inr ⟨by omega, by simp only [List.length_cons]; omega⟩
theorem fd_range (p : α → Bool) (l : List α) : fdT p l = -1 ∨ (0 ≤ fdT p l ∧ fdT p l < (l.length : Int)) := by
  have := fdF_range p l 0
  rw [Nat.zero_add] at this
  exact this
theorem fdF_mem (p : α → Bool) : ∀ (l : List α) (k : Nat), fdF p k l ≠ -1 → ∃ (j : Nat) (x : α), l[j]? = some x ∧ p x = true ∧ fdF p k l = ((k + j : Nat) : Int)
  | [], _, h => absurd rfl h
  | y :: r, k, h => by
    unfold fdF at h ⊢
    by_cases hp : p y = true
    · rw [if_pos hp]
      exact ⟨0, y, rfl, hp, rfl⟩
    · rw [if_neg hp] at h ⊢
      obtain ⟨j, x, h1, h2, h3⟩ := fdF_mem p r (k + 1) h
      exact ⟨j + 1, x, h1, h2, by rw [h3]; congr 1; omega⟩
theorem fd_mem {p : α → Bool} {l : List α} (h : fdT p l ≠ -1) : ∃ (j : Nat) (x : α), l[j]? = some x ∧ p x = true ∧ fdT p l = (j : Int) := by
  obtain ⟨j, x, h1, h2, h3⟩ := fdF_mem p l 0 h
  exact ⟨j, x, h1, h2, by rw [Nat.zero_add] at h3; exact h3⟩

/-! ### The indices of all with a property -/
def ixF (p : α → Bool) (k : Nat) : List α → List Int
  | [] => []
  | x :: r => if p x then (k : Int) :: ixF p (k + 1) r else ixF p (k + 1) r
/-- The indices of those with the property, in order. -/
def ixs (p : α → Bool) (l : List α) : List Int := ixF p 0 l
theorem ixF_app (p : α → Bool) : ∀ (l : List α) (k : Nat) (x : α), ixF p k (l ++ [x]) = ixF p k l ++ if p x then [((k + l.length : Nat) : Int)] else []
  | [], k, x => by
    show ixF p k [x] = _
    simp only [ixF, List.length_nil, Nat.add_zero, List.nil_append]
  | y :: r, k, x => by
    rw [List.cons_append]
    have e : k + 1 + r.length = k + (y :: r).length := by rw [List.length_cons]; omega
    unfold ixF
    rw [ixF_app p r (k + 1) x, e]
    split <;> simp
theorem ix_hit {l : List α} {k : Nat} {x : α} (h : l[k]? = some x) (hp : p x = true) : ixs p (l.take (k + 1)) = ixs p (l.take k) ++ [(k : Int)] := by
  unfold ixs
  have hk := (List.getElem?_eq_some_iff.1 h).1
  rw [take_at l k x h, ixF_app, if_pos hp, List.length_take, Nat.min_eq_left (by omega), Nat.zero_add]
theorem ix_miss {l : List α} {k : Nat} {x : α} (h : l[k]? = some x) (hp : p x = false) : ixs p (l.take (k + 1)) = ixs p (l.take k) := by
  unfold ixs
  rw [take_at l k x h, ixF_app, if_neg (by rw [hp]; simp), List.append_nil]
theorem ixF_le (p : α → Bool) : ∀ (l : List α) (k : Nat), (ixF p k l).length ≤ l.length
  | [], _ => Nat.le_refl _
  | y :: r, k => by
    have := ixF_le p r (k + 1)
    unfold ixF
    split <;> simp only [List.length_cons] <;> omega
theorem ix_le (p : α → Bool) (l : List α) : (ixs p l).length ≤ l.length := ixF_le p l 0
/-- Whether the one at an index has the property. -/
def hasAt (p : α → Bool) (l : List α) (i : Int) : Bool := match l[i.toNat]? with | some x => p x | none => false
theorem ixF_part {p q : α → Bool} (hpq : ∀ x, p x = true → q x = true) (l : List α) : ∀ (r : List α) (k : Nat), l.drop k = r → ixF p k r = (ixF q k r).filter (hasAt p l)
  | [], _, _ => rfl
  | y :: r, k, h => by
    have hy : l[k]? = some y := by
      have h0 : (l.drop k)[0]? = some y := by rw [h]; rfl
      rw [List.getElem?_drop] at h0
      exact h0
    have hr : l.drop (k + 1) = r := by
      rw [drop_at l k y hy] at h
      exact (List.cons.inj h).2
    have ha : hasAt p l (k : Int) = p y := by unfold hasAt; rw [Int.toNat_natCast, hy]
    have ih := ixF_part hpq l r (k + 1) hr
    unfold ixF
    rw [ih]
    cases hp : p y with
    | true =>
      rw [if_pos rfl, if_pos (hpq y hp), List.filter_cons_of_pos (by rw [ha, hp])]
    | false =>
      rw [if_neg (by simp)]
      split
      · rw [List.filter_cons_of_neg (by rw [ha, hp]; simp)]
      · rfl
/-- The indices of a part are those of the whole at which the part's property holds. -/
theorem ix_part {p q : α → Bool} (hpq : ∀ x, p x = true → q x = true) (l : List α) : ixs p l = (ixs q l).filter (hasAt p l) := ixF_part hpq l l 0 rfl
end

/-! ### A list told apart into two -/
section
variable {α : Type}
/-- How many of the first so many have the property. -/
def numF (f : α → Bool) (l : List α) (a : Nat) : Nat := ((l.take a).filter f).length
theorem num_zero (f : α → Bool) (l : List α) : numF f l 0 = 0 := rfl
theorem num_yes {f : α → Bool} {l : List α} {a : Nat} {x : α} (h : l[a]? = some x) (hf : f x = true) : numF f l (a + 1) = numF f l a + 1 := by
  unfold numF
  rw [take_at l a x h, List.filter_append, List.filter_cons_of_pos hf, List.length_append]
  rfl
theorem num_no {f : α → Bool} {l : List α} {a : Nat} {x : α} (h : l[a]? = some x) (hf : f x = false) : numF f l (a + 1) = numF f l a := by
  unfold numF
  rw [take_at l a x h, List.filter_append, List.filter_cons_of_neg (by rw [hf]; simp), List.length_append]
  rfl
theorem num_le (f : α → Bool) (l : List α) (a : Nat) : numF f l a ≤ (l.filter f).length := by
  unfold numF
  conv => rhs; rw [← List.take_append_drop a l, List.filter_append, List.length_append]
  omega
theorem num_at {f : α → Bool} {l : List α} {a : Nat} {x : α} (h : l[a]? = some x) (hf : f x = true) : (l.filter f)[numF f l a]? = some x := by
  have e : l.filter f = (l.take a).filter f ++ x :: (l.drop (a + 1)).filter f := by
    conv => lhs; rw [← List.take_append_drop a l, drop_at l a x h, List.filter_append, List.filter_cons_of_pos hf]
  rw [e]
  unfold numF
  rw [List.getElem?_append_right (Nat.le_refl _), Nat.sub_self]
  rfl
theorem num_ne {f : α → Bool} {l : List α} {j : Nat} {x y : α} (h : (l.filter f)[j]? = some y) (hf : f x = false) : y ≠ x := by
  rintro rfl
  have := (List.mem_filter.1 (List.mem_of_getElem? h)).2
  rw [hf] at this
  cases this
theorem num_sum (f : α → Bool) : ∀ l : List α, (l.filter f).length + (l.filter fun x => !f x).length = l.length
  | [] => rfl
  | x :: r => by
    have := num_sum f r
    cases hf : f x <;> simp [hf] <;> omega
end
end Go.Proofs.Ytkpmmojfnhfflaa
