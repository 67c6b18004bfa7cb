/-
  Plain facts about lists of calls: which one is the first that is not valid, calls shifted in time, the pairs that are rides in their order, the time from the first departure to the last arrival: no program. Condition: none beyond each theorem's own hypotheses.
-/
import Derived.Test.YtkballjadkhepaaFst
import Derived.RowKit
namespace Go.Proofs.Ytkballjadkhepaa
open Go Go.RowKit

/-- A call: stop, arrival, departure, whether one can board, whether one can alight. -/
abbrev Cl := Int × Int × Int × Bool × Bool

/-! ### The first call that is not valid -/
/-- Whether a call is at the stop of the one before. -/
def onC (p : Option Cl) (x : Cl) : Bool := match p with | some y => decide (x.1 = y.1) | none => false
/-- Whether a call arrives before the one before departs. -/
def ovC (p : Option Cl) (x : Cl) : Bool := match p with | some y => decide (x.2.1 < y.2.2.1) | none => false
/-- The error of a call. -/
def badC (st lo hi : Int) (p : Option Cl) (x : Cl) : Int :=
  if x.1 < 0 ∨ st ≤ x.1 then 9 else if onC p x then 13 else if x.2.1 < lo ∨ x.2.2.1 < x.2.1 ∨ hi < x.2.2.1 then 10 else if ovC p x then 10 else 0
section
variable {st lo hi : Int} {p : Option Cl} {x : Cl}
theorem badC_ref (h : x.1 < 0 ∨ st ≤ x.1) : badC st lo hi p x = 9 := by unfold badC; rw [if_pos h]
theorem badC_stop (h1 : ¬ x.1 < 0) (h2 : ¬ st ≤ x.1) (h : onC p x = true) : badC st lo hi p x = 13 := by unfold badC; rw [if_neg (by omega), if_pos h]
theorem badC_time (h1 : ¬ x.1 < 0) (h2 : ¬ st ≤ x.1) (h3 : onC p x = false) (h : x.2.1 < lo ∨ x.2.2.1 < x.2.1 ∨ hi < x.2.2.1) : badC st lo hi p x = 10 := by
  unfold badC
  rw [if_neg (by omega), if_neg (by rw [h3]; simp), if_pos h]
theorem badC_over (h1 : ¬ x.1 < 0) (h2 : ¬ st ≤ x.1) (h3 : onC p x = false) (h4 : ¬ x.2.1 < lo) (h5 : ¬ x.2.2.1 < x.2.1) (h6 : ¬ hi < x.2.2.1) (h : ovC p x = true) : badC st lo hi p x = 10 := by
  unfold badC
  rw [if_neg (by omega), if_neg (by rw [h3]; simp), if_neg (by omega), if_pos h]
theorem badC_none (h1 : ¬ x.1 < 0) (h2 : ¬ st ≤ x.1) (h3 : onC p x = false) (h4 : ¬ x.2.1 < lo) (h5 : ¬ x.2.2.1 < x.2.1) (h6 : ¬ hi < x.2.2.1) (h : ovC p x = false) : badC st lo hi p x = 0 := by
  unfold badC
  rw [if_neg (by omega), if_neg (by rw [h3]; simp), if_neg (by omega), if_neg (by rw [h]; simp)]
theorem badC_good (h : badC st lo hi p x = 0) : x.2.1 ≤ x.2.2.1 ∧ ovC p x = false := by
  unfold badC at h
  split at h
  · omega
  split at h
  · omega
  split at h
  · omega
  split at h
  · omega
  · next h1 h2 => exact ⟨by omega, Bool.eq_false_iff.2 h2⟩
theorem onC_none : onC none x = false := rfl
theorem ovC_none : ovC none x = false := rfl
theorem onC_yes {y : Cl} (h : x.1 = y.1) : onC (some y) x = true := decide_eq_true h
theorem onC_no {y : Cl} (h : x.1 ≠ y.1) : onC (some y) x = false := decide_eq_false h
theorem ovC_yes {y : Cl} (h : x.2.1 < y.2.2.1) : ovC (some y) x = true := decide_eq_true h
theorem ovC_no {y : Cl} (h : ¬ x.2.1 < y.2.2.1) : ovC (some y) x = false := decide_eq_false h
end
/-- The call before this index. -/
def prvC (l : List Cl) : Nat → Option Cl
  | 0 => none
  | k + 1 => l[k]?
/-- The first bad one from here on, and its error. -/
def ckF (st lo hi : Int) (p : Option Cl) (k : Nat) : List Cl → Int × Int
  | [] => (0, 0)
  | x :: r => if badC st lo hi p x = 0 then ckF st lo hi (some x) (k + 1) r else ((k : Int), badC st lo hi p x)
/-- What Check answers. -/
def chkC (st lo hi : Int) (l : List Cl) : Int × Int := if l.length < 2 ∨ 32 < l.length then (0, 5) else ckF st lo hi none 0 l
section
variable {st lo hi : Int} {q : Int × Int} {l : List Cl} {k : Nat} {x : Cl}
theorem chkC_few (h : l.length < 2) : chkC st lo hi l = (0, 5) := by unfold chkC; rw [if_pos (.inl h)]
theorem chkC_many (h : 32 < l.length) : chkC st lo hi l = (0, 5) := by unfold chkC; rw [if_pos (.inr h)]
theorem chkC_start (h : ¬ l.length < 2) (h2 : ¬ 32 < l.length) : chkC st lo hi l = ckF st lo hi (prvC l 0) 0 (l.drop 0) := by unfold chkC; rw [if_neg (by omega)]; rfl
theorem ck_next (hr : q = ckF st lo hi (prvC l k) k (l.drop k)) (h : l[k]? = some x) (hb : badC st lo hi (prvC l k) x = 0) : q = ckF st lo hi (prvC l (k + 1)) (k + 1) (l.drop (k + 1)) := by
  rw [hr, drop_at l k x h]
  conv => lhs; unfold ckF
  rw [if_pos hb]
  show _ = ckF st lo hi l[k]? _ _
  rw [h]
theorem ck_stop {e : Int} (hr : q = ckF st lo hi (prvC l k) k (l.drop k)) (h : l[k]? = some x) (hb : badC st lo hi (prvC l k) x = e) (he : e ≠ 0) : q = ((k : Int), e) := by
  rw [hr, drop_at l k x h]
  unfold ckF
  rw [if_neg (by rw [hb]; exact he), hb]
theorem ck_done (hr : q = ckF st lo hi (prvC l k) k (l.drop k)) (h : l.length ≤ k) : q = (0, 0) := by
  rw [hr, List.drop_of_length_le h]
  rfl
end
/-! ### In valid calls the times ascend -/
/-- From here on, behind a call: each arrives before it departs, and not before the one before departs. -/
def ascF (p : Option Cl) : List Cl → Prop
  | [] => True
  | x :: r => x.2.1 ≤ x.2.2.1 ∧ ovC p x = false ∧ ascF (some x) r
theorem ck_asc (st lo hi : Int) : ∀ (l : List Cl) (p : Option Cl) (k : Nat), (ckF st lo hi p k l).2 = 0 → ascF p l
  | [], _, _, _ => trivial
  | x :: r, p, k, h => by
    unfold ckF at h
    by_cases hb : badC st lo hi p x = 0
    · rw [if_pos hb] at h
      exact ⟨(badC_good hb).1, (badC_good hb).2, ck_asc st lo hi r _ _ h⟩
    · rw [if_neg hb] at h
      exact absurd h hb
theorem asc_from : ∀ (l : List Cl) (y : Cl), ascF (some y) l → ∀ (k : Nat) (z : Cl), l[k]? = some z → y.2.2.1 ≤ z.2.1
  | [], _, _, k, z, h => by simp at h
  | x :: r, y, ha, k, z, h => by
    obtain ⟨h1, h2, h3⟩ := ha
    have h4 : ¬ x.2.1 < y.2.2.1 := of_decide_eq_false h2
    cases k with
    | zero =>
      simp at h
      subst h
      omega
    | succ k =>
      rw [List.getElem?_cons_succ] at h
      have := asc_from r x h3 k z h
      omega
theorem asc_pair : ∀ (l : List Cl) (p : Option Cl), ascF p l → ∀ (i k : Nat) (y z : Cl), i < k → l[i]? = some y → l[k]? = some z → y.2.2.1 ≤ z.2.1
  | [], _, _, i, _, _, _, _, h, _ => by simp at h
  | x :: r, p, ha, i, k, y, z, hik, hi, hk => by
    obtain ⟨k, rfl⟩ : ∃ j, k = j + 1 := ⟨k - 1, by omega⟩
    rw [List.getElem?_cons_succ] at hk
    cases i with
    | zero =>
      simp at hi
      subst hi
      exact asc_from r x ha.2.2 k z hk
    | succ i =>
      rw [List.getElem?_cons_succ] at hi
      exact asc_pair r _ ha.2.2 i k y z (by omega) hi hk
theorem chk_asc {st lo hi : Int} {l : List Cl} (h : (chkC st lo hi l).2 = 0) {i k : Nat} {y z : Cl} (hik : i < k) (h1 : l[i]? = some y) (h2 : l[k]? = some z) : y.2.2.1 ≤ z.2.1 := by
  unfold chkC at h
  split at h
  · cases h
  · exact asc_pair l none (ck_asc st lo hi l none 0 h) i k y z hik h1 h2

/-! ### Calls shifted in time -/
/-- A call shifted. -/
def shX (by_ : Int) (x : Cl) : Cl := (x.1, wrap64 (x.2.1 + by_), wrap64 (x.2.2.1 + by_), x.2.2.2.1, x.2.2.2.2)
/-- The calls shifted. -/
def shC (by_ : Int) (l : List Cl) : List Cl := l.map (shX by_)
theorem shC_len (b : Int) (l : List Cl) : (shC b l).length = l.length := List.length_map _
theorem shC_nil (b : Int) : shC b [] = [] := rfl
theorem shC_snoc {b : Int} {l : List Cl} {k : Nat} {x : Cl} (h : l[k]? = some x) : shC b (l.take (k + 1)) = shC b (l.take k) ++ [shX b x] := by
  unfold shC
  rw [take_at l k x h, List.map_append]
  rfl
/-- The first k shifted, the others as they are. -/
def mixC (b : Int) (l : List Cl) (k : Nat) : List Cl := shC b (l.take k) ++ l.drop k
theorem mixC_zero (b : Int) (l : List Cl) : mixC b l 0 = l := rfl
theorem mixC_all {b : Int} {l : List Cl} {k : Nat} (h : l.length ≤ k) : mixC b l k = shC b l := by
  unfold mixC
  rw [List.take_of_length_le h, List.drop_of_length_le h, List.append_nil]
theorem mixC_len (b : Int) (l : List Cl) (k : Nat) : (mixC b l k).length = l.length := by
  unfold mixC
  rw [List.length_append, shC_len, List.length_take, List.length_drop]
  omega
theorem mixC_at {b : Int} {l : List Cl} {k : Nat} {x : Cl} (h : l[k]? = some x) : (mixC b l k)[k]? = some x := by
  have hk := (List.getElem?_eq_some_iff.1 h).1
  unfold mixC
  rw [List.getElem?_append_right (by rw [shC_len, List.length_take]; omega), shC_len, List.length_take, List.getElem?_drop, Nat.min_eq_left (by omega), Nat.sub_self, Nat.add_zero]
  exact h
theorem mixC_set {b : Int} {l : List Cl} {k : Nat} {x : Cl} (h : l[k]? = some x) : (mixC b l k).set k (shX b x) = mixC b l (k + 1) := by
  have hk := (List.getElem?_eq_some_iff.1 h).1
  unfold mixC
  have hl : (shC b (l.take k)).length = k := by rw [shC_len, List.length_take]; omega
  rw [List.set_append_right _ _ (by omega), hl, Nat.sub_self, drop_at l k x h, List.set_cons_zero, shC_snoc h, List.append_assoc]
  rfl
/-- The times of a call lie near 0. -/
def nearX (x : Cl) : Prop := -1099511627776 ≤ x.2.1 ∧ x.2.1 ≤ 1099511627776 ∧ -1099511627776 ≤ x.2.2.1 ∧ x.2.2.1 ≤ 1099511627776
theorem shX_near {b : Int} {x : Cl} (h : nearX x) (h1 : -1099511627776 ≤ b) (h2 : b ≤ 1099511627776) : shX b x = (x.1, x.2.1 + b, x.2.2.1 + b, x.2.2.2.1, x.2.2.2.2) := by
  obtain ⟨s, a, d, o, e⟩ := x
  unfold nearX at h
  simp only at h
  have e1 : wrap64 (a + b) = a + b := by unfold wrap64; omega
  have e2 : wrap64 (d + b) = d + b := by unfold wrap64; omega
  unfold shX
  simp only [e1, e2]
theorem onC_shift {b : Int} {p : Option Cl} {x : Cl} : onC (p.map (shX b)) (shX b x) = onC p x := by cases p <;> rfl
theorem ovC_shift {b : Int} {p : Option Cl} {x : Cl} (hp : ∀ y, p = some y → nearX y) (h : nearX x) (h1 : -1099511627776 ≤ b) (h2 : b ≤ 1099511627776) : ovC (p.map (shX b)) (shX b x) = ovC p x := by
  cases p with
  | none => rfl
  | some y =>
    rw [Option.map_some, shX_near h h1 h2, shX_near (hp y rfl) h1 h2]
    unfold ovC
    simp only
    rw [Bool.eq_iff_iff, decide_eq_true_iff, decide_eq_true_iff]
    omega
theorem badC_shift {st lo hi b : Int} {p : Option Cl} {x : Cl} (hp : ∀ y, p = some y → nearX y) (h : nearX x) (h1 : -1099511627776 ≤ b) (h2 : b ≤ 1099511627776) : badC st (lo + b) (hi + b) (p.map (shX b)) (shX b x) = badC st lo hi p x := by
  unfold badC
  rw [onC_shift, ovC_shift hp h h1 h2, shX_near h h1 h2]
  simp only
  have e : (x.2.1 + b < lo + b ∨ x.2.2.1 + b < x.2.1 + b ∨ hi + b < x.2.2.1 + b) = (x.2.1 < lo ∨ x.2.2.1 < x.2.1 ∨ hi < x.2.2.1) := by apply propext; omega
  simp only [e]
theorem ck_shift {st lo hi b : Int} (h1 : -1099511627776 ≤ b) (h2 : b ≤ 1099511627776) : ∀ (l : List Cl) (p : Option Cl) (k : Nat), (∀ y, p = some y → nearX y) → (∀ x ∈ l, nearX x) → ckF st (lo + b) (hi + b) (p.map (shX b)) k (l.map (shX b)) = ckF st lo hi p k l
  | [], _, _, _, _ => rfl
  | x :: r, p, k, hp, hl => by
    have hx := hl x (List.mem_cons_self)
    rw [List.map_cons]
    unfold ckF
    rw [badC_shift hp hx h1 h2]
    have ih := ck_shift (st := st) (lo := lo) (hi := hi) h1 h2 r (some x) (k + 1) (fun y hy => by cases hy; exact hx) (fun z hz => hl z (List.mem_cons_of_mem _ hz))
    rw [Option.map_some] at ih
    rw [ih]
theorem chk_shift {st lo hi b : Int} {l : List Cl} (h1 : -1099511627776 ≤ b) (h2 : b ≤ 1099511627776) (hl : ∀ x ∈ l, nearX x) : chkC st (lo + b) (hi + b) (shC b l) = chkC st lo hi l := by
  unfold chkC
  rw [shC_len]
  split
  · rfl
  · exact ck_shift h1 h2 l none 0 (fun y hy => by cases hy) hl
theorem sh_back {b : Int} {l : List Cl} (h1 : -1099511627776 ≤ b) (h2 : b ≤ 1099511627776) (hl : ∀ x ∈ l, nearX x) : shC (-b) (shC b l) = l := by
  unfold shC
  rw [List.map_map]
  conv => rhs; rw [← List.map_id l]
  refine List.map_congr_left fun x hx => ?_
  have h := hl x hx
  show shX (-b) (shX b x) = x
  rw [shX_near h h1 h2]
  obtain ⟨s, a, d, o, e⟩ := x
  unfold nearX at h
  simp only at h
  have e1 : wrap64 (a + b + -b) = a := by unfold wrap64; omega
  have e2 : wrap64 (d + b + -b) = d := by unfold wrap64; omega
  unfold shX
  simp only [e1, e2]
/-- The time from the first departure to the last arrival. -/
def durC (l : List Cl) : Int := if l.length < 2 then 0 else wrap64 ((l.getLast?.getD (0, 0, 0, false, false)).2.1 - (l.head?.getD (0, 0, 0, false, false)).2.2.1)
theorem durC_few {l : List Cl} (h : l.length < 2) : durC l = 0 := by unfold durC; rw [if_pos h]
theorem durC_two {l : List Cl} (h : ¬ l.length < 2) {y z : Cl} (h0 : l[0]? = some y) (h1 : l[l.length - 1]? = some z) : durC l = wrap64 (z.2.1 - y.2.2.1) := by
  unfold durC
  rw [if_neg h, List.getLast?_eq_getElem?, h1, List.head?_eq_getElem?, h0]
  rfl
/-- Whether a call is at the stop. -/
def atC (st : Int) (x : Cl) : Bool := decide (x.1 = st)
theorem atC_yes {st : Int} {x : Cl} (h : x.1 = st) : atC st x = true := decide_eq_true h
theorem atC_no {st : Int} {x : Cl} (h : x.1 ≠ st) : atC st x = false := decide_eq_false h

/-! ### Rides -/
/-- Whether one can board at a call. -/
def boC (l : List Cl) (i : Nat) : Bool := match l[i]? with | some x => x.2.2.2.1 | none => false
/-- Whether one can alight at a call. -/
def alC (l : List Cl) (i : Nat) : Bool := match l[i]? with | some x => x.2.2.2.2 | none => false
/-- Whether two indices are a ride. -/
def rdB (l : List Cl) (i k : Int) : Bool := decide (0 ≤ i) && decide (i < k) && decide (k < (l.length : Int)) && boC l i.toNat && alC l k.toNat
theorem rdB_low {l : List Cl} {i k : Int} (h : ¬ 0 ≤ i) : rdB l i k = false := by unfold rdB; rw [decide_eq_false h]; rfl
theorem rdB_order {l : List Cl} {i k : Int} (h : ¬ i < k) : rdB l i k = false := by unfold rdB; rw [decide_eq_false h, Bool.and_false]; rfl
theorem rdB_far {l : List Cl} {i k : Int} (h : ¬ k < (l.length : Int)) : rdB l i k = false := by unfold rdB; rw [decide_eq_false h, Bool.and_false]; rfl
theorem rdB_in {l : List Cl} {i k : Nat} (h1 : i < k) {y z : Cl} (hi : l[i]? = some y) (hk : l[k]? = some z) : rdB l (i : Int) (k : Int) = (y.2.2.2.1 && z.2.2.2.2) := by
  have h2 := (List.getElem?_eq_some_iff.1 hk).1
  unfold rdB boC alC
  rw [decide_eq_true (by omega), decide_eq_true (by omega), decide_eq_true (by omega), Int.toNat_natCast, Int.toNat_natCast, hi, hk]
  rfl
theorem rdB_is {l : List Cl} {i k : Int} (h : rdB l i k = true) : 0 ≤ i ∧ i < k ∧ k < (l.length : Int) := by
  unfold rdB at h
  rw [Bool.and_eq_true, Bool.and_eq_true, Bool.and_eq_true, Bool.and_eq_true] at h
  exact ⟨of_decide_eq_true h.1.1.1.1, of_decide_eq_true h.1.1.1.2, of_decide_eq_true h.1.1.2⟩
/-- A pair of indices. -/
abbrev Pr := Nat × Nat
/-- The rides from board i and alight k on, in i's row. -/
def rowR (l : List Cl) (i k : Nat) : List Pr := ((List.range' k (l.length - k)).filter fun (k : Nat) => rdB l (i : Int) (k : Int)).map fun (k : Nat) => (i, k)
/-- The rides from the board i on. -/
def allR (l : List Cl) (i : Nat) : List Pr := (List.range' i (l.length - i)).flatMap fun i => rowR l i (i + 1)
/-- All rides in order. -/
def prsC (l : List Cl) : List Pr := allR l 0
section
variable {l : List Cl} {i k : Nat}
theorem range_from {n k : Nat} (h : k < n) : List.range' k (n - k) = k :: List.range' (k + 1) (n - (k + 1)) := by
  rw [show n - k = (n - (k + 1)) + 1 by omega, List.range'_succ]
theorem range_none {n k : Nat} (h : n ≤ k) : List.range' k (n - k) = [] := by
  rw [Nat.sub_eq_zero_of_le h]
  rfl
theorem row_end (h : l.length ≤ k) : rowR l i k = [] := by unfold rowR; rw [range_none h]; rfl
theorem row_hit (h : k < l.length) (hp : rdB l (i : Int) (k : Int) = true) : rowR l i k = (i, k) :: rowR l i (k + 1) := by
  unfold rowR
  rw [range_from h, List.filter_cons, if_pos hp, List.map_cons]
theorem row_miss (h : k < l.length) (hp : rdB l (i : Int) (k : Int) = false) : rowR l i k = rowR l i (k + 1) := by
  conv => lhs; unfold rowR
  rw [range_from h, List.filter_cons, if_neg (by rw [hp]; simp)]
  rfl
theorem all_end (h : l.length ≤ i) : allR l i = [] := by unfold allR; rw [range_none h]; rfl
theorem all_next (h : i < l.length) : allR l i = rowR l i (i + 1) ++ allR l (i + 1) := by
  conv => lhs; unfold allR
  rw [range_from h, List.flatMap_cons]
  rfl
theorem row_back : ∀ (j : Nat), j ≤ i + 1 → i < l.length → rowR l i (i + 1 - j) = rowR l i (i + 1)
  | 0, _, _ => rfl
  | j + 1, h, hi => by
    rw [← row_back j (by omega) hi, row_miss (by omega) (rdB_order (by omega))]
    congr 1
    omega
/-- The row from its first index on. -/
theorem row_zero (h : i < l.length) : rowR l i 0 = rowR l i (i + 1) := by
  have := row_back (l := l) (i := i) (i + 1) (Nat.le_refl _) h
  rw [Nat.sub_self] at this
  exact this
theorem row_le : (rowR l i k).length ≤ l.length - k := by
  unfold rowR
  rw [List.length_map]
  exact Nat.le_trans (List.length_filter_le _ _) (Nat.le_of_eq List.length_range')
theorem all_le : (allR l i).length ≤ (l.length - i) * l.length := by
  have : ∀ (n i : Nat), l.length - i = n → (allR l i).length ≤ n * l.length := by
    intro n
    induction n with
    | zero => intro i h; rw [all_end (by omega)]; simp
    | succ n ih =>
      intro i h
      rw [all_next (by omega), List.length_append, Nat.add_mul]
      have h1 := ih (i + 1) (by omega)
      have h2 := row_le (l := l) (i := i) (k := i + 1)
      omega
  exact this _ i rfl
theorem prs_le (l : List Cl) : (prsC l).length ≤ l.length * l.length := by
  have := all_le (l := l) (i := 0)
  rw [Nat.sub_zero] at this
  exact this
theorem row_mem {p : Pr} (h : p ∈ rowR l i k) : p.1 = i ∧ k ≤ p.2 ∧ rdB l (p.1 : Int) (p.2 : Int) = true := by
  unfold rowR at h
  obtain ⟨a, ha, rfl⟩ := List.mem_map.1 h
  obtain ⟨h1, h2⟩ := List.mem_filter.1 ha
  exact ⟨rfl, (List.mem_range'_1.1 h1).1, h2⟩
theorem all_mem {p : Pr} (h : p ∈ allR l i) : i ≤ p.1 ∧ rdB l (p.1 : Int) (p.2 : Int) = true := by
  unfold allR at h
  obtain ⟨a, ha, hp⟩ := List.mem_flatMap.1 h
  obtain ⟨h1, _, h3⟩ := row_mem hp
  exact ⟨by rw [h1]; exact (List.mem_range'_1.1 ha).1, h3⟩
theorem prs_mem {p : Pr} (h : p ∈ prsC l) : rdB l (p.1 : Int) (p.2 : Int) = true := (all_mem h).2
/-- One pair ahead of another. -/
def ltP (p q : Pr) : Prop := p.1 < q.1 ∨ p.1 = q.1 ∧ p.2 < q.2
theorem row_sort : ∀ (n k : Nat), l.length - k = n → (rowR l i k).Pairwise ltP := by
  intro n
  induction n with
  | zero => intro k h; rw [row_end (by omega)]; exact List.Pairwise.nil
  | succ n ih =>
    intro k h
    cases hp : rdB l (i : Int) (k : Int) with
    | false => rw [row_miss (by omega) hp]; exact ih (k + 1) (by omega)
    | true =>
      rw [row_hit (by omega) hp, List.pairwise_cons]
      refine ⟨fun q hq => ?_, ih (k + 1) (by omega)⟩
      obtain ⟨h1, h2, _⟩ := row_mem hq
      exact .inr ⟨h1.symm, by show k < _; omega⟩
theorem all_sort : ∀ (n i : Nat), l.length - i = n → (allR l i).Pairwise ltP := by
  intro n
  induction n with
  | zero => intro i h; rw [all_end (by omega)]; exact List.Pairwise.nil
  | succ n ih =>
    intro i h
    rw [all_next (by omega), List.pairwise_append]
    refine ⟨row_sort _ _ rfl, ih (i + 1) (by omega), fun p hp q hq => .inl ?_⟩
    have h1 := (row_mem hp).1
    have h2 := (all_mem hq).1
    omega
theorem prs_sort (l : List Cl) : (prsC l).Pairwise ltP := all_sort _ 0 rfl
theorem prs_next {j : Nat} {p q : Pr} (h1 : (prsC l)[j]? = some p) (h2 : (prsC l)[j + 1]? = some q) : p.1 < q.1 ∨ p.1 = q.1 ∧ p.2 < q.2 := by
  obtain ⟨g1, e1⟩ := List.getElem?_eq_some_iff.1 h1
  obtain ⟨g2, e2⟩ := List.getElem?_eq_some_iff.1 h2
  have := List.pairwise_iff_getElem.1 (prs_sort l) j (j + 1) g1 g2 (by omega)
  rw [e1, e2] at this
  exact this
/-! The pairs as a loop over rows comes upon them: those before, this row's, the later rows'. -/
theorem prs_start : prsC l = [] ++ allR l 0 := rfl
theorem prs_row {pre : List Pr} (hr : prsC l = pre ++ allR l i) (h : i < l.length) : prsC l = pre ++ (rowR l i (i + 1) ++ allR l (i + 1)) := by rw [hr, all_next h]
theorem prs_hit {pre : List Pr} (hr : prsC l = pre ++ (rowR l i k ++ allR l (i + 1))) (h : k < l.length) (hp : rdB l (i : Int) (k : Int) = true) : prsC l = pre ++ [(i, k)] ++ (rowR l i (k + 1) ++ allR l (i + 1)) := by
  rw [hr, row_hit h hp, List.append_assoc]
  rfl
theorem prs_miss {pre : List Pr} (hr : prsC l = pre ++ (rowR l i k ++ allR l (i + 1))) (h : k < l.length) (hp : rdB l (i : Int) (k : Int) = false) : prsC l = pre ++ (rowR l i (k + 1) ++ allR l (i + 1)) := by
  rw [hr, row_miss h hp]
theorem prs_rowend {pre : List Pr} (hr : prsC l = pre ++ (rowR l i k ++ allR l (i + 1))) (h : l.length ≤ k) : prsC l = pre ++ allR l (i + 1) := by
  rw [hr, row_end h, List.nil_append]
theorem prs_end {pre : List Pr} (hr : prsC l = pre ++ allR l i) (h : l.length ≤ i) : prsC l = pre := by
  rw [hr, all_end h, List.append_nil]
/-! The number of pairs as two loops over all indices count them. -/
/-- How many are told so far in row i, with those of earlier rows. -/
theorem cnt_start (n : Nat) (hr : n + (allR l i).length = (prsC l).length) (h : i < l.length) : n + ((rowR l i 0).length + (allR l (i + 1)).length) = (prsC l).length := by
  rw [← hr, all_next h, List.length_append, row_zero h]
theorem cnt_hit {n : Nat} (hr : n + ((rowR l i k).length + (allR l (i + 1)).length) = (prsC l).length) (h : k < l.length) (hp : rdB l (i : Int) (k : Int) = true) : (n + 1) + ((rowR l i (k + 1)).length + (allR l (i + 1)).length) = (prsC l).length := by
  rw [← hr, row_hit h hp, List.length_cons]
  omega
theorem cnt_miss {n : Nat} (hr : n + ((rowR l i k).length + (allR l (i + 1)).length) = (prsC l).length) (h : k < l.length) (hp : rdB l (i : Int) (k : Int) = false) : n + ((rowR l i (k + 1)).length + (allR l (i + 1)).length) = (prsC l).length := by
  rw [← hr, row_miss h hp]
theorem cnt_rowend {n : Nat} (hr : n + ((rowR l i k).length + (allR l (i + 1)).length) = (prsC l).length) (h : l.length ≤ k) : n + (allR l (i + 1)).length = (prsC l).length := by
  rw [← hr, row_end h]
  rw [List.length_nil, Nat.zero_add]
theorem cnt_end {n : Nat} (hr : n + (allR l i).length = (prsC l).length) (h : l.length ≤ i) : n = (prsC l).length := by
  rw [← hr, all_end h]
  rfl
end
/-- What a consumer that wants so many holds. -/
theorem prs_take {l : List Cl} {pre : List Pr} {n : Nat} (h : pre <+: prsC l) (hn : pre.length = n) : pre = (prsC l).take n := by
  obtain ⟨q, hq⟩ := h
  rw [← hq, ← hn, List.take_left']
  rfl

/-! ### Lists that are equal -/
theorem eqC_len {a b : List Cl} (h : a.length ≠ b.length) : decide (a = b) = false := decide_eq_false fun e => h (by rw [e])
/-- Equal so far. -/
def eqTo (a b : List Cl) (k : Nat) : Prop := a.take k = b.take k
theorem eqTo_zero (a b : List Cl) : eqTo a b 0 := rfl
theorem eqTo_next {a b : List Cl} {k : Nat} {x : Cl} (h : eqTo a b k) (h1 : a[k]? = some x) (h2 : b[k]? = some x) : eqTo a b (k + 1) := by
  unfold eqTo at *
  rw [take_at a k x h1, take_at b k x h2, h]
theorem eqTo_not {a b : List Cl} {k : Nat} {x y : Cl} (h1 : a[k]? = some x) (h2 : b[k]? = some y) (h : x ≠ y) : decide (a = b) = false := decide_eq_false fun e => by
  subst e
  rw [h1] at h2
  exact h (Option.some.inj h2)
theorem eqTo_all {a b : List Cl} {k : Nat} (h : eqTo a b k) (h1 : a.length ≤ k) (h2 : b.length ≤ k) : decide (a = b) = true := by
  unfold eqTo at h
  rw [List.take_of_length_le h1, List.take_of_length_le h2] at h
  exact decide_eq_true h
/-! ### Stops and times of 64 bits -/
/-- The stops and the times are ints. -/
def OkS (l : List Cl) : Prop := ∀ x ∈ l, (-9223372036854775808 ≤ x.1 ∧ x.1 ≤ 9223372036854775807) ∧ (-9223372036854775808 ≤ x.2.1 ∧ x.2.1 ≤ 9223372036854775807) ∧ -9223372036854775808 ≤ x.2.2.1 ∧ x.2.2.1 ≤ 9223372036854775807
theorem OkS.all {l : List Cl} (h : OkS l) {k : Nat} {x : Cl} (hx : l[k]? = some x) : (-9223372036854775808 ≤ x.1 ∧ x.1 ≤ 9223372036854775807) ∧ (-9223372036854775808 ≤ x.2.1 ∧ x.2.1 ≤ 9223372036854775807) ∧ -9223372036854775808 ≤ x.2.2.1 ∧ x.2.2.1 ≤ 9223372036854775807 := h x (List.mem_iff_getElem?.2 ⟨k, hx⟩)
end Go.Proofs.Ytkballjadkhepaa
