/-
  The reference's lists, as plain functions: the first of the least, the list without one, sorting by selection; what a heap gives is the same. Condition: none beyond each theorem's own hypotheses.
-/
import Derived.Test.YtnmomkldlajimaaHeap
namespace Go.Proofs.Ytnmomkldlajimaa
section
variable {α : Type} {less : α → α → Bool}
theorem first_one (o : IsOrd less) (a : α) : IsFirst less [a] 0 :=
  ⟨by simp, fun j x y hj hy => by
    cases j with
    | zero => simp at hj hy; subst hj hy; exact o.irr _
    | succ j => simp at hj, fun j x y hj => by omega⟩
theorem first_step (o : IsOrd less) {l : List α} {k b : Nat} {x y : α} (hk : l[k]? = some x) (hb : l[b]? = some y) (hbk : b < k) (h : IsFirst less (l.take k) b) : IsFirst less (l.take (k + 1)) (if less x y = true then k else b) := by
  have hkl := (List.getElem?_eq_some_iff.1 hk).1
  have hlen : (l.take (k + 1)).length = k + 1 := by rw [List.length_take]; omega
  have hat : ∀ j, j < k + 1 → (l.take (k + 1))[j]? = l[j]? := fun j hj => by rw [List.getElem?_take, if_pos hj]
  have hold : ∀ j, j < k → (l.take k)[j]? = l[j]? := fun j hj => by rw [List.getElem?_take, if_pos hj]
  cases hxy : less x y with
  | true =>
    rw [if_pos rfl]
    have hyx := o.asym _ _ hxy
    refine ⟨by omega, fun j u v hj hv => ?_, fun j u v hjk hj hv => ?_⟩
    · rw [hat k (by omega), hk] at hv
      cases hv
      have hjl := (List.getElem?_eq_some_iff.1 hj).1
      rw [hlen] at hjl
      by_cases e : j = k
      · subst e; rw [hat _ (by omega), hk] at hj; cases hj; exact o.irr _
      · rw [hat j hjl] at hj
        exact o.ntr _ _ _ (h.low j u y (by rw [hold j (by omega)]; exact hj) (by rw [hold b hbk]; exact hb)) hyx
    · rw [hat k (by omega), hk] at hv
      cases hv
      rw [hat j (by omega)] at hj
      have h1 := h.low j u y (by rw [hold j hjk]; exact hj) (by rw [hold b hbk]; exact hb)
      cases h2 : less x u with
      | true => rfl
      | false => rw [o.ntr _ _ _ h2 h1] at hxy; cases hxy
  | false =>
    rw [if_neg (by simp)]
    refine ⟨by omega, fun j u v hj hv => ?_, fun j u v hjb hj hv => ?_⟩
    · rw [hat b (by omega), hb] at hv
      cases hv
      have hjl := (List.getElem?_eq_some_iff.1 hj).1
      rw [hlen] at hjl
      by_cases e : j = k
      · subst e; rw [hat _ (by omega), hk] at hj; cases hj; exact hxy
      · rw [hat j hjl] at hj
        exact h.low j u y (by rw [hold j (by omega)]; exact hj) (by rw [hold b hbk]; exact hb)
    · rw [hat b (by omega), hb] at hv
      cases hv
      rw [hat j (by omega)] at hj
      exact h.new j u y hjb (by rw [hold j (by omega)]; exact hj) (by rw [hold b hbk]; exact hb)
theorem first_uniq {l : List α} {i j : Nat} (hi : IsFirst less l i) (hj : IsFirst less l j) : i = j := by
  have hil := List.getElem?_eq_getElem hi.lt
  have hjl := List.getElem?_eq_getElem hj.lt
  rcases Nat.lt_trichotomy i j with h | h | h
  · have := hj.new i _ _ h hil hjl
    rw [hi.low j _ _ hjl hil] at this; cases this
  · exact h
  · have := hi.new j _ _ h hjl hil
    rw [hj.low i _ _ hil hjl] at this; cases this
variable (less)
/-- The first of the least elements of a list. -/
def firstI (l : List α) : Nat := (List.range l.length).foldl (fun b k => match l[k]?, l[b]? with
  | some x, some y => if less x y = true then k else b
  | _, _ => b) 0
variable {less}
theorem firstI_is (o : IsOrd less) {l : List α} (hl : 0 < l.length) : IsFirst less l (firstI less l) := by
  have key : ∀ n, n ≤ l.length → 0 < n → IsFirst less (l.take n) ((List.range n).foldl (fun b k => match l[k]?, l[b]? with
      | some x, some y => if less x y = true then k else b
      | _, _ => b) 0) := by
    intro n
    induction n with
    | zero => intro _ h; omega
    | succ n ih =>
      intro hn _
      rw [List.range_succ, List.foldl_append]
      simp only [List.foldl_cons, List.foldl_nil]
      by_cases h0 : n = 0
      · subst h0
        have hx : l[0]? = some l[0] := List.getElem?_eq_getElem hl
        simp only [List.range_zero, List.foldl_nil, hx]
        rw [o.irr, if_neg (by simp), take_one l 0 _ hx]
        exact first_one o _
      · have hf := ih (by omega) (by omega)
        have hb := hf.lt
        rw [List.length_take] at hb
        generalize (List.range n).foldl _ 0 = b at hf hb ⊢
        have hx : l[n]? = some l[n] := List.getElem?_eq_getElem (by omega)
        have hy : l[b]? = some (l[b]'(by omega)) := List.getElem?_eq_getElem (by omega)
        rw [hx, hy]
        exact first_step o hx hy (by omega) hf
  have := key l.length (Nat.le_refl _) hl
  rwa [List.take_length] at this
variable (less)
/-- Sorting by selection. -/
def selR (l : List α) : List α := match _h : l[firstI less l]? with
  | some a => a :: selR (l.eraseIdx (firstI less l))
  | none => []
termination_by l.length
decreasing_by
  have := (List.getElem?_eq_some_iff.1 _h).1
  rw [List.length_eraseIdx_of_lt this]
  omega
theorem selR_some {l : List α} {a : α} (h : l[firstI less l]? = some a) : selR less l = a :: selR less (l.eraseIdx (firstI less l)) := by
  conv => lhs; unfold selR
  split
  · next b hb => rw [h] at hb; cases hb; rfl
  · next hb => rw [h] at hb; cases hb
theorem selR_nil : selR less ([] : List α) = [] := by unfold selR; rfl
variable {less}
/-- A heap's elements leave in the order of selection. -/
theorem drain_sel (o : IsOrd less) (l : List (α × Nat)) (h : Hp less l) : ∀ R : List (α × Nat), l.Perm R → Inc R → drainH less l = selR less (R.map (·.1)) := by
  fun_induction drainH less l with
  | case1 l a ha ih =>
    intro R hp hR
    have hl : 0 < (R.map (·.1)).length := by
      rw [List.length_map, ← hp.length_eq]
      exact (List.getElem?_eq_some_iff.1 ha).1
    have hf := firstI_is o hl
    obtain ⟨h1, h2⟩ := root_first o h hp hR hf ha
    have h3 : (R.map (·.1))[firstI less (R.map (·.1))]? = some a.1 := by rw [List.getElem?_map, h1]; rfl
    rw [selR_some less h3, ih (pop_heap o h) _ h2 (hR.erase _), map_erase]
  | case2 l hn =>
    intro R hp _
    have : l = [] := by cases l with | nil => rfl | cons a r => simp at hn
    subst this
    have : R = [] := List.length_eq_zero_iff.1 (by rw [← hp.length_eq]; rfl)
    subst this
    exact (selR_nil less).symm
/-- The list without its element i, up to k. -/
theorem erase_take (l : List α) (i k : Nat) (x : α) (h : l[k]? = some x) : (l.take (k + 1)).eraseIdx i = if k = i then (l.take k).eraseIdx i else (l.take k).eraseIdx i ++ [x] := by
  have hk := (List.getElem?_eq_some_iff.1 h).1
  have hlen : (l.take k).length = k := by rw [List.length_take]; omega
  rw [take_one l k x h]
  rcases Nat.lt_trichotomy i k with e | e | e
  · rw [if_neg (by omega), List.eraseIdx_append_of_lt_length (by omega)]
  · subst e
    have e2 : (l.take i).eraseIdx i = l.take i := List.eraseIdx_of_length_le (by omega)
    rw [if_pos rfl, e2, List.eraseIdx_append_of_length_le (by omega), hlen, Nat.sub_self]
    exact List.append_nil _
  · rw [if_neg (by omega), List.eraseIdx_of_length_le (by simp; omega), List.eraseIdx_of_length_le (by omega)]
end
end Go.Proofs.Ytnmomkldlajimaa
