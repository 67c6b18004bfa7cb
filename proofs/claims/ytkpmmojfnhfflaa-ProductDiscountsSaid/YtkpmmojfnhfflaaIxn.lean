/-
  Plain facts about the indices of all with a property (the one at a place, that they ascend) and about the first bad one of a list (of a beginning of it, what follows for each of an accepted one): no program. Condition: none beyond each theorem's own hypotheses.
-/
import Derived.Test.YtkpmmojfnhfflaaFst
namespace Go.Proofs.Ytkpmmojfnhfflaa
open Go

/-! ### The indices of all with a property -/
theorem ixF_split {α : Type} (p : α → Bool) : ∀ (a b : List α) (k : Nat), ixF p k (a ++ b) = ixF p k a ++ ixF p (k + a.length) b
  | [], b, k => rfl
  | x :: a, b, k => by
    have ih := ixF_split p a b (k + 1)
    rw [List.cons_append]
    have e : k + 1 + a.length = k + (x :: a).length := by rw [List.length_cons]; omega
    show (if p x then (k : Int) :: ixF p (k + 1) (a ++ b) else ixF p (k + 1) (a ++ b)) = (if p x then (k : Int) :: ixF p (k + 1) a else ixF p (k + 1) a) ++ ixF p (k + (x :: a).length) b
    rw [ih, e]
    split <;> rfl
theorem ix_nth {α : Type} {p : α → Bool} {l : List α} {i : Nat} {x : α} (h : l[i]? = some x) (hp : p x = true) : (ixs p l)[(ixs p (l.take i)).length]? = some (i : Int) := by
  have h1 : ixs p l = ixs p (l.take (i + 1)) ++ ixF p (0 + (l.take (i + 1)).length) (l.drop (i + 1)) := by
    conv => lhs; rw [← List.take_append_drop (i + 1) l]
    exact ixF_split p _ _ 0
  rw [h1, ix_hit h hp, List.append_assoc, List.getElem?_append_right (Nat.le_refl _), Nat.sub_self]
  rfl
theorem ix_val {α : Type} {p : α → Bool} {l : List α} {i : Nat} {z : Int} (h : (ixs p l)[i]? = some z) : ∃ (j : Nat) (x : α), z = (j : Int) ∧ l[j]? = some x ∧ p x = true := by
  have F : ∀ (l : List α) (k i : Nat), (ixF p k l)[i]? = some z → ∃ (j : Nat) (x : α), z = ((k + j : Nat) : Int) ∧ l[j]? = some x ∧ p x = true := by
    intro l
    induction l with
    | nil => intro k i h; simp [ixF] at h
    | cons y r ih =>
      intro k i h
      unfold ixF at h
      by_cases hp : p y = true
      · rw [if_pos hp] at h
        cases i with
        | zero =>
          simp at h
          exact ⟨0, y, by rw [← h]; rfl, rfl, hp⟩
        | succ i =>
          rw [List.getElem?_cons_succ] at h
          obtain ⟨j, x, h1, h2, h3⟩ := ih (k + 1) i h
          exact ⟨j + 1, x, by rw [h1]; congr 1; omega, h2, h3⟩
      · rw [if_neg hp] at h
        obtain ⟨j, x, h1, h2, h3⟩ := ih (k + 1) i h
        exact ⟨j + 1, x, by rw [h1]; congr 1; omega, h2, h3⟩
  obtain ⟨j, x, h1, h2, h3⟩ := F l 0 i h
  exact ⟨j, x, by rw [Nat.zero_add] at h1; exact h1, h2, h3⟩
theorem ixF_asc {α : Type} (p : α → Bool) : ∀ (l : List α) (k : Nat), (∀ z ∈ ixF p k l, (k : Int) ≤ z) ∧ (ixF p k l).Pairwise (· < ·)
  | [], _ => ⟨fun z h => (by cases h), List.Pairwise.nil⟩
  | y :: r, k => by
    obtain ⟨h1, h2⟩ := ixF_asc p r (k + 1)
    unfold ixF
    split
    · refine ⟨fun z hz => ?_, List.Pairwise.cons (fun z hz => ?_) h2⟩
      · rcases List.mem_cons.1 hz with rfl | hz
        · exact Int.le_refl _
        · have := h1 z hz
          omega
      · have := h1 z hz
        omega
    · exact ⟨fun z hz => by have := h1 z hz; omega, h2⟩
/-- They ascend. -/
theorem ix_asc {α : Type} {p : α → Bool} {l : List α} {i j : Nat} {a b : Int} (hi : (ixs p l)[i]? = some a) (hj : (ixs p l)[j]? = some b) (h : i < j) : a < b := by
  have hp := (ixF_asc p l 0).2
  obtain ⟨h1, rfl⟩ := List.getElem?_eq_some_iff.1 hi
  obtain ⟨h2, rfl⟩ := List.getElem?_eq_some_iff.1 hj
  exact List.pairwise_iff_getElem.1 hp i j h1 h2 h

/-! ### The first bad one of a beginning -/
theorem fb_take {κ α : Type} {bad : List κ → α → Int} {key : α → κ} : ∀ (l : List α) (seen : List κ) (k j : Nat), (fbF bad key seen k l).2 = 0 → (fbF bad key seen k (l.take j)).2 = 0
  | l, seen, k, 0, _ => by rw [List.take_zero]; rfl
  | [], seen, k, j + 1, _ => rfl
  | x :: r, seen, k, j + 1, h => by
    rw [List.take_succ_cons]
    unfold fbF at h ⊢
    by_cases hb : bad seen x = 0
    · rw [if_pos hb] at h ⊢
      exact fb_take r _ _ j h
    · rw [if_neg hb] at h
      exact absurd h hb
theorem fb_good {κ α : Type} {bad : List κ → α → Int} {key : α → κ} : ∀ (r l : List α) (k : Nat), l.drop k = r → (fbF bad key ((l.take k).map key) k r).2 = 0 → ∀ (j : Nat) (x : α), k ≤ j → l[j]? = some x → bad ((l.take j).map key) x = 0
  | [], l, k, hd, _, j, x, hk, hx => by
    have h1 := (List.getElem?_eq_some_iff.1 hx).1
    have h2 := congrArg List.length hd
    rw [List.length_drop, List.length_nil] at h2
    omega
  | y :: r, l, k, hd, h, j, x, hk, hx => by
    have hy : l[k]? = some y := by
      have h0 : (l.drop k)[0]? = some y := by rw [hd]; rfl
      rw [List.getElem?_drop] at h0
      exact h0
    have hr : l.drop (k + 1) = r := by
      rw [drop_at l k y hy] at hd
      exact (List.cons.inj hd).2
    unfold fbF at h
    by_cases hb : bad ((l.take k).map key) y = 0
    · rw [if_pos hb, ← key_take hy] at h
      rcases Nat.lt_or_ge k j with hlt | hge
      · exact fb_good r l (k + 1) hr h j x hlt hx
      · obtain rfl : j = k := by omega
        rw [hy] at hx
        obtain rfl := Option.some.inj hx
        exact hb
    · rw [if_neg hb] at h
      exact absurd h hb
end Go.Proofs.Ytkpmmojfnhfflaa
