/-
  Plain facts about whole timetables: the checks of their parts one after another, their sizes, what stays valid when last elements are removed: no program. Condition: none beyond each theorem's own hypotheses.
-/
import Derived.Test.YtkhalnjgbdpfhaaGreatPk13
import Derived.Test.YtkhalnjgbdpfhaaGreatPk14
import Derived.Test.YtkhalnjgbdpfhaaGreatPk15
import Derived.Test.YtkhalnjgbdpfhaaGreatPk17
import Derived.Test.YtkhalnjgbdpfhaaGreatPk18
import Derived.Test.YtkhalnjgbdpfhaaGreatPk19
import Derived.Test.YtkhalnjgbdpfhaaGreatPk20
import Derived.Test.YtkhalnjgbdpfhaaGreatPk21
namespace Go.Proofs.YtkhalnjgbdpfhaaGreat
open Go

/-- A timetable: its ten parts (the fares as their products, the discount, the seconds within, the cap). -/
structure Tt where
  st : List S13.St
  ro : List Rt
  ca : List S14.Cl
  ex : List S14.Ex
  tr : List Tp
  fr : List Fq
  th : List S19.Th
  gu : List S19.Gt
  pa : List S20.Fp
  pr : List S21.Pd
  di : Int
  wi : Int
  cp : Int
/-- The calls of the trips. -/
def clsT (T : Tt) : List (List Cl) := T.tr.map clT
/-- What the check of a part answers. -/
def partT (T : Tt) : Nat → Int × Int
  | 0 => S13.chkT T.st
  | 1 => chkR T.ro
  | 2 => S14.chkC T.ca
  | 3 => S14.chkX T.ca.length T.ex
  | 4 => S17.chkT T.st.length T.ro.length T.ca.length T.tr
  | 5 => chkF (T.tr.map clT) T.fr
  | 6 => S19.chkH (T.tr.map S19.tcT) T.fr T.th
  | 7 => S19.chkU (T.tr.map S19.tcT) T.fr T.st.length T.gu
  | 8 => S20.chkP T.st.length T.pa
  | 9 => S21.chkPd T.di T.wi T.cp T.pr
  | _ => (0, 0)
/-- The first of n parts from number k on that has an error, and what its check answers. -/
def ttF (P : Nat → Int × Int) (k : Nat) : Nat → Int × Int × Int
  | 0 => (0, 0, 0)
  | n + 1 => if (P k).2 ≠ 0 then ((k : Int), (P k).1, (P k).2) else ttF P (k + 1) n
/-- What Check answers. -/
def ttC (T : Tt) : Int × Int × Int := ttF (partT T) 0 10
section
variable {P : Nat → Int × Int} {k n : Nat}
theorem tt_stop (h : (P k).2 ≠ 0) : ttF P k (n + 1) = ((k : Int), (P k).1, (P k).2) := by unfold ttF; rw [if_pos h]
theorem tt_next (h : (P k).2 = 0) : ttF P k (n + 1) = ttF P (k + 1) n := by
  show (if (P k).2 ≠ 0 then _ else _) = _
  rw [if_neg (fun q => q h)]
theorem tt_all : ∀ (n k : Nat), (ttF P k n).2.2 = 0 ↔ ∀ j, k ≤ j → j < k + n → (P j).2 = 0
  | 0, k => ⟨fun _ j h1 h2 => by omega, fun _ => rfl⟩
  | n + 1, k => by
    by_cases h : (P k).2 = 0
    · rw [tt_next h, tt_all n (k + 1)]
      constructor
      · intro g j h1 h2
        by_cases e : j = k
        · rw [e]; exact h
        · exact g j (by omega) (by omega)
      · intro g j h1 h2
        exact g j (by omega) (by omega)
    · rw [tt_stop h]
      exact ⟨fun g => absurd g h, fun g => absurd (g k (Nat.le_refl _) (by omega)) h⟩
end
/-- It is valid if and only if all its parts are. -/
theorem ttC_all (T : Tt) : (ttC T).2.2 = 0 ↔ ∀ j, j < 10 → (partT T j).2 = 0 := by
  unfold ttC
  rw [tt_all]
  exact ⟨fun h j hj => h j (Nat.zero_le _) (by omega), fun h j _ hj => h j (by omega)⟩
/-- The sum of the calls of the first so many trips. -/
def sumT (l : List Tp) : Nat := (l.map fun x => (clT x).length).sum
theorem sumT_next {l : List Tp} {k : Nat} {x : Tp} (h : l[k]? = some x) : sumT (l.take (k + 1)) = sumT (l.take k) + (clT x).length := by
  unfold sumT
  rw [take_at l k x h, List.map_append, List.sum_append]
  simp
/-- Fewer conditions, no new error. -/
theorem fb_less {κ α : Type} {bad bad' : List κ → α → Int} {key : α → κ} (hb : ∀ seen x, bad seen x = 0 → bad' seen x = 0) : ∀ (l : List α) (seen : List κ) (k : Nat), (fbF bad key seen k l).2 = 0 → (fbF bad' key seen k l).2 = 0
  | [], _, _, _ => rfl
  | x :: r, seen, k, h => by
    unfold fbF at h ⊢
    by_cases e : bad seen x = 0
    · rw [if_pos e] at h
      rw [if_pos (hb _ _ e)]
      exact fb_less hb r _ _ h
    · rw [if_neg e] at h
      exact absurd h e
theorem rep_less {a : Int} {f : List Fq} {j : Nat} (h : repF a f = false) : repF a (f.take j) = false := by
  unfold repF at h ⊢
  rw [List.any_eq_false] at h ⊢
  exact fun x hx => h x (List.mem_of_mem_take hx)
theorem pr_less {n : Nat} {f : List Fq} {a b : Int} {j : Nat} (h : S19.prE n f a b = 0) : S19.prE n (f.take j) a b = 0 := by
  unfold S19.prE at h ⊢
  split at h
  · cases h
  · next h1 =>
    rw [if_neg h1]
    split at h
    · cases h
    · next h2 =>
      rw [Bool.or_eq_true, not_or] at h2
      rw [rep_less (Bool.eq_false_iff.2 h2.1), rep_less (Bool.eq_false_iff.2 h2.2)]
      rfl
theorem th_less {ts : List S19.Tc} {f : List Fq} {seen : List S19.Th} {x : S19.Th} {j : Nat} (h : S19.thE ts f seen x = 0) : S19.thE ts (f.take j) seen x = 0 := by
  unfold S19.thE at h ⊢
  split at h
  · next h1 => exact absurd h h1
  · next h1 =>
    rw [pr_less (Decidable.not_not.1 h1), if_neg (fun q => q rfl)]
    exact h
theorem gu_less {ts : List S19.Tc} {f : List Fq} {st : Int} {seen : List S19.Gt} {x : S19.Gt} {j : Nat} (h : S19.guE ts f st seen x = 0) : S19.guE ts (f.take j) st seen x = 0 := by
  unfold S19.guE at h ⊢
  split at h
  · cases h
  · next h0 =>
    rw [if_neg h0]
    split at h
    · next h1 => exact absurd h h1
    · next h1 =>
      rw [pr_less (Decidable.not_not.1 h1), if_neg (fun q => q rfl)]
      exact h
/-- A timetable without the last elements of five parts. -/
def cutT (T : Tt) (n : Nat) : Tt := { T with ex := T.ex.take n, fr := T.fr.take n, th := T.th.take n, gu := T.gu.take n, pa := T.pa.take n }
theorem cut_ok {T : Tt} {n : Nat} (h : (ttC T).2.2 = 0) : (ttC (cutT T n)).2.2 = 0 := by
  rw [ttC_all] at h ⊢
  intro j hj
  match j, hj with
  | 0, _ => exact h 0 (by omega)
  | 1, _ => exact h 1 (by omega)
  | 2, _ => exact h 2 (by omega)
  | 3, _ =>
    have g := h 3 (by omega)
    show (S14.chkX T.ca.length (T.ex.take n)).2 = 0
    change (S14.chkX T.ca.length T.ex).2 = 0 at g
    unfold S14.chkX at g ⊢
    split at g
    · cases g
    · rw [if_neg (by rw [List.length_take]; omega)]
      exact fb_take _ _ _ _ g
  | 4, _ => exact h 4 (by omega)
  | 5, _ =>
    have g := h 5 (by omega)
    show (chkF (T.tr.map clT) (T.fr.take n)).2 = 0
    change (chkF (T.tr.map clT) T.fr).2 = 0 at g
    unfold chkF at g ⊢
    split at g
    · cases g
    · rw [if_neg (by rw [List.length_take]; omega)]
      exact fb_take _ _ _ _ g
  | 6, _ =>
    have g := h 6 (by omega)
    show (S19.chkH (T.tr.map S19.tcT) (T.fr.take n) (T.th.take n)).2 = 0
    change (S19.chkH (T.tr.map S19.tcT) T.fr T.th).2 = 0 at g
    unfold S19.chkH at g ⊢
    split at g
    · cases g
    · rw [if_neg (by rw [List.length_take]; omega)]
      exact fb_less (fun _ _ => th_less) _ _ _ (fb_take _ _ _ _ g)
  | 7, _ =>
    have g := h 7 (by omega)
    show (S19.chkU (T.tr.map S19.tcT) (T.fr.take n) T.st.length (T.gu.take n)).2 = 0
    change (S19.chkU (T.tr.map S19.tcT) T.fr T.st.length T.gu).2 = 0 at g
    unfold S19.chkU at g ⊢
    split at g
    · cases g
    · rw [if_neg (by rw [List.length_take]; omega)]
      exact fb_less (fun _ _ => gu_less) _ _ _ (fb_take _ _ _ _ g)
  | 8, _ =>
    have g := h 8 (by omega)
    show (S20.chkP T.st.length (T.pa.take n)).2 = 0
    change (S20.chkP T.st.length T.pa).2 = 0 at g
    unfold S20.chkP S20.vldP at g ⊢
    split at g
    · cases g
    · rw [if_neg (by rw [List.length_take]; omega)]
      exact fb_take _ _ _ _ g
  | 9, _ => exact h 9 (by omega)

/-! ### Small timetables -/
def fewN (T : Tt) : Prop := T.st.length ≤ 70 ∧ T.ro.length ≤ 70 ∧ T.ca.length ≤ 70 ∧ T.ex.length ≤ 70 ∧ T.tr.length ≤ 40 ∧ T.fr.length ≤ 70 ∧ T.th.length ≤ 140 ∧ T.gu.length ≤ 140 ∧ T.pa.length ≤ 70 ∧ T.pr.length ≤ 20
instance (T : Tt) : Decidable (fewN T) := by unfold fewN; infer_instance
def fewT (T : Tt) : Bool := decide (fewN T) && T.tr.all fun x => decide ((clT x).length ≤ 40)
theorem few_no {T : Tt} (h : ¬ fewN T) : fewT T = false := by unfold fewT; rw [decide_eq_false h]; rfl
theorem few_long {T : Tt} {k : Nat} {x : Tp} (h : T.tr[k]? = some x) (hx : 40 < (clT x).length) : fewT T = false := by
  unfold fewT
  rw [Bool.and_eq_false_iff]
  right
  rw [List.all_eq_false]
  exact ⟨x, List.mem_iff_getElem?.2 ⟨k, h⟩, by simp; omega⟩
theorem few_yes {T : Tt} (h : fewN T) (h2 : ∀ (j : Nat) x, j < T.tr.length → T.tr[j]? = some x → (clT x).length ≤ 40) : fewT T = true := by
  unfold fewT
  rw [decide_eq_true h, Bool.true_and, List.all_eq_true]
  intro x hx
  obtain ⟨j, hj⟩ := List.mem_iff_getElem?.1 hx
  exact decide_eq_true (h2 j x (List.getElem?_eq_some_iff.1 hj).1 hj)
theorem few_iff {T : Tt} : fewT T = true ↔ fewN T ∧ ∀ x ∈ T.tr, (clT x).length ≤ 40 := by
  unfold fewT
  rw [Bool.and_eq_true, decide_eq_true_iff, List.all_eq_true]
  exact ⟨fun h => ⟨h.1, fun x hx => of_decide_eq_true (h.2 x hx)⟩, fun h => ⟨h.1, fun x hx => decide_eq_true (h.2 x hx)⟩⟩
end Go.Proofs.YtkhalnjgbdpfhaaGreat
