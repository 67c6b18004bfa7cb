/-
  Plain facts about equal timetables: lists that are equal element by element, the parts of two timetables: no program. Condition: none beyond each theorem's own hypotheses.
-/
import Derived.Test.YtkhalnjgbdpfhaaGreatTtp
namespace Go.Proofs.YtkhalnjgbdpfhaaGreat
open Go

section
variable {α : Type} {e : α → α → Bool} {l m : List α}
/-- Two lists are equal element by element. -/
def eqB (e : α → α → Bool) (l m : List α) : Bool := decide (l.length = m.length) && (List.range l.length).all fun i => match l[i]?, m[i]? with
  | some x, some y => e x y
  | _, _ => false
theorem eq_len (h : l.length ≠ m.length) : eqB e l m = false := by unfold eqB; rw [decide_eq_false h]; rfl
theorem eq_diff {k : Nat} {x y : α} (hx : l[k]? = some x) (hy : m[k]? = some y) (h : e x y = false) : eqB e l m = false := by
  unfold eqB
  rw [Bool.and_eq_false_iff]
  right
  rw [List.all_eq_false]
  exact ⟨k, List.mem_range.2 (List.getElem?_eq_some_iff.1 hx).1, by rw [hx, hy]; simp [h]⟩
theorem eq_end (hl : l.length = m.length) (h : ∀ (j : Nat) x y, j < l.length → l[j]? = some x → m[j]? = some y → e x y = true) : eqB e l m = true := by
  unfold eqB
  rw [decide_eq_true hl, Bool.true_and, List.all_eq_true]
  intro j hj
  have hj := List.mem_range.1 hj
  obtain ⟨x, hx⟩ := at_lt hj
  obtain ⟨y, hy⟩ := at_lt (show j < m.length by omega)
  rw [hx, hy]
  exact h j x y hj hx hy
theorem eq_refl (h : ∀ x, e x x = true) : eqB e l l = true := eq_end rfl fun j x y _ hx hy => by
  rw [hx] at hy
  cases hy
  exact h x
theorem eq_more {k : Nat} {x y : α} (h : ∀ (j : Nat) x y, j < k → l[j]? = some x → m[j]? = some y → e x y = true) (hx : l[k]? = some x) (hy : m[k]? = some y) (he : e x y = true) : ∀ (j : Nat) x y, j < k + 1 → l[j]? = some x → m[j]? = some y → e x y = true := by
  intro j x' y' hj hx' hy'
  by_cases g : j = k
  · subst g
    rw [hx] at hx'
    rw [hy] at hy'
    cases hx'
    cases hy'
    exact he
  · exact h j x' y' (by omega) hx' hy'
end
/-- Equal elements of the parts: calendars by their seven days, trips by their calls. -/
def eSt (x y : S13.St) : Bool := decide (x = y)
def eRo (x y : Rt) : Bool := decide (x = y)
def eCa (x y : S14.Cl) : Bool := decide (x.1 = y.1 ∧ (x.2.1 0 = y.2.1 0 ∧ x.2.1 1 = y.2.1 1 ∧ x.2.1 2 = y.2.1 2 ∧ x.2.1 3 = y.2.1 3 ∧ x.2.1 4 = y.2.1 4 ∧ x.2.1 5 = y.2.1 5 ∧ x.2.1 6 = y.2.1 6) ∧ x.2.2.1 = y.2.2.1 ∧ x.2.2.2 = y.2.2.2)
def eEx (x y : S14.Ex) : Bool := decide (x = y)
def eCc (x y : Cl) : Bool := decide (x = y)
def eTr (x y : Tp) : Bool := decide (x.1 = y.1 ∧ x.2.1 = y.2.1 ∧ x.2.2.1 = y.2.2.1 ∧ x.2.2.2.1 = y.2.2.2.1) && eqB eCc (clT x) (clT y)
def eFr (x y : Fq) : Bool := decide (x = y)
def eTh (x y : S19.Th) : Bool := decide (x = y)
def eGu (x y : S19.Gt) : Bool := decide (x = y)
def ePa (x y : S20.Fp) : Bool := decide (x = y)
def ePr (x y : S21.Pd) : Bool := decide (x = y)
/-- The reference's three parts of equality, and equality. -/
def hdT (T U : Tt) : Bool := eqB eSt T.st U.st && (eqB eRo T.ro U.ro && (eqB eCa T.ca U.ca && eqB eEx T.ex U.ex))
def tlT (T U : Tt) : Bool := eqB eFr T.fr U.fr && (eqB eTh T.th U.th && (eqB eGu T.gu U.gu && (eqB ePa T.pa U.pa && eqB ePr T.pr U.pr)))
def eqT (T U : Tt) : Bool := hdT T U && (eqB eTr T.tr U.tr && (tlT T U && decide (T.di = U.di ∧ T.wi = U.wi ∧ T.cp = U.cp)))
theorem eSt_r (x : S13.St) : eSt x x = true := decide_eq_true rfl
theorem eRo_r (x : Rt) : eRo x x = true := decide_eq_true rfl
theorem eCa_r (x : S14.Cl) : eCa x x = true := decide_eq_true ⟨rfl, ⟨rfl, rfl, rfl, rfl, rfl, rfl, rfl⟩, rfl, rfl⟩
theorem eEx_r (x : S14.Ex) : eEx x x = true := decide_eq_true rfl
theorem eCc_r (x : Cl) : eCc x x = true := decide_eq_true rfl
theorem eTr_r (x : Tp) : eTr x x = true := by unfold eTr; rw [decide_eq_true ⟨rfl, rfl, rfl, rfl⟩, eq_refl eCc_r]; rfl
theorem eFr_r (x : Fq) : eFr x x = true := decide_eq_true rfl
theorem eTh_r (x : S19.Th) : eTh x x = true := decide_eq_true rfl
theorem eGu_r (x : S19.Gt) : eGu x x = true := decide_eq_true rfl
theorem ePa_r (x : S20.Fp) : ePa x x = true := decide_eq_true rfl
theorem ePr_r (x : S21.Pd) : ePr x x = true := decide_eq_true rfl
/-- A timetable is equal to itself. -/
theorem eqT_refl (T : Tt) : eqT T T = true := by
  unfold eqT hdT tlT
  rw [eq_refl eSt_r, eq_refl eRo_r, eq_refl eCa_r, eq_refl eEx_r, eq_refl eTr_r, eq_refl eFr_r, eq_refl eTh_r, eq_refl eGu_r, eq_refl ePa_r, eq_refl ePr_r, decide_eq_true ⟨rfl, rfl, rfl⟩]
  rfl
end Go.Proofs.YtkhalnjgbdpfhaaGreat
