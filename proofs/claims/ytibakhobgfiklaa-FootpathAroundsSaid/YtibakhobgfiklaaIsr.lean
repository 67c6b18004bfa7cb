/-
  Plain facts about lists of ints in order: a list sorted, what is in it, that its order and its elements tell it, one more put into its place from behind: no program. Condition: none beyond each theorem's own hypotheses.
-/
import Derived.Test.YtibakhobgfiklaaMa
namespace Go.Proofs.Ytibakhobgfiklaa
open Go

/-- A list in ascending order. -/
def srtI (l : List Int) : List Int := l.mergeSort fun x y => decide (x ≤ y)
theorem srtI_nil : srtI [] = [] := by simp [srtI]
theorem srtI_mem (l : List Int) (z : Int) : z ∈ srtI l ↔ z ∈ l := (List.mergeSort_perm l _).mem_iff
theorem srtI_len (l : List Int) : (srtI l).length = l.length := (List.mergeSort_perm l _).length_eq
theorem srtI_perm (l : List Int) : (srtI l).Perm l := List.mergeSort_perm l _
theorem srtI_up (l : List Int) : (srtI l).Pairwise (· ≤ ·) := by
  refine List.Pairwise.imp ?_ (List.pairwise_mergeSort (le := fun x y : Int => decide (x ≤ y)) (fun x y z h1 h2 => ?_) (fun x y => ?_) l)
  · intro x y h
    simpa using h
  · simp at *; omega
  · simp; omega
theorem up_unique : ∀ a b : List Int, a.Pairwise (· ≤ ·) → b.Pairwise (· ≤ ·) → a.Perm b → a = b
  | [], b, _, _, p => p.nil_eq
  | x :: a, [], _, _, p => absurd p.symm.nil_eq (by simp)
  | x :: a, y :: b, ha, hb, p => by
    have ha' := List.pairwise_cons.1 ha
    have hb' := List.pairwise_cons.1 hb
    have h1 : y ∈ x :: a := p.mem_iff.2 List.mem_cons_self
    have h2 : x ∈ y :: b := p.mem_iff.1 List.mem_cons_self
    have a1 : x ≤ y := by
      rcases List.mem_cons.1 h1 with h | h
      · omega
      · exact ha'.1 y h
    have a2 : y ≤ x := by
      rcases List.mem_cons.1 h2 with h | h
      · omega
      · exact hb'.1 x h
    obtain rfl : x = y := by omega
    rw [up_unique a b ha'.2 hb'.2 ((List.perm_cons x).1 p)]
theorem srt_is {l m : List Int} (h : m.Pairwise (· ≤ ·)) (p : m.Perm l) : srtI l = m := up_unique _ _ (srtI_up l) h ((srtI_perm l).trans p.symm)
/-- In a sorted list without doubles each is less than the next one. -/
theorem srt_less {l : List Int} (h : l.Nodup) {i : Nat} {x y : Int} (h1 : (srtI l)[i]? = some x) (h2 : (srtI l)[i + 1]? = some y) : x < y := by
  obtain ⟨g1, e1⟩ := List.getElem?_eq_some_iff.1 h1
  obtain ⟨g2, e2⟩ := List.getElem?_eq_some_iff.1 h2
  have a := List.pairwise_iff_getElem.1 (srtI_up l) i (i + 1) g1 g2 (by omega)
  have b := List.pairwise_iff_getElem.1 ((srtI_perm l).nodup_iff.2 h) i (i + 1) g1 g2 (by omega)
  rw [e1, e2] at a b
  omega

/-! ### One more put into its place from behind -/
/-- The new one ahead of those from an index on. -/
def insS (old : List Int) (x : Int) (k : Nat) : List Int := old.take k ++ x :: old.drop k
section
variable {old : List Int} {x : Int} {k : Nat}
theorem insS_start (old : List Int) (x : Int) : insS old x old.length = old ++ [x] := by unfold insS; rw [List.take_length, List.drop_length]
theorem insS_len (old : List Int) (x : Int) (k : Nat) : (insS old x k).length = old.length + 1 := by
  unfold insS
  rw [List.length_append, List.length_cons, List.length_take, List.length_drop]
  omega
theorem insS_at (hk : k ≤ old.length) : (insS old x k)[k]? = some x := by
  unfold insS
  rw [List.getElem?_append_right (by rw [List.length_take]; omega), List.length_take, Nat.min_eq_left hk, Nat.sub_self]
  rfl
theorem insS_before {y : Int} (h : old[k]? = some y) : (insS old x (k + 1))[k]? = some y := by
  have hk := (List.getElem?_eq_some_iff.1 h).1
  unfold insS
  rw [List.getElem?_append_left (by rw [List.length_take]; omega), List.getElem?_take, if_pos (by omega), h]
theorem insS_swap {y : Int} (h : old[k]? = some y) : ((insS old x (k + 1)).set (k + 1) y).set k x = insS old x k := by
  have hk := (List.getElem?_eq_some_iff.1 h).1
  unfold insS
  rw [take_at old k y h, List.set_append_right _ _ (by rw [List.length_append, List.length_take]; simp; omega)]
  rw [List.length_append, List.length_take, Nat.min_eq_left (by omega)]
  simp only [List.length_cons, List.length_nil, Nat.zero_add, Nat.sub_self, List.set_cons_zero]
  rw [List.append_assoc, List.set_append_right _ _ (by rw [List.length_take]; omega), List.length_take, Nat.min_eq_left (by omega), Nat.sub_self, drop_at old k y h]
  rfl
theorem insS_perm (old : List Int) (x : Int) (k : Nat) : (insS old x k).Perm (old ++ [x]) := by
  unfold insS
  refine List.perm_middle.trans ?_
  rw [List.take_append_drop]
  exact (List.perm_append_comm (l₁ := [x]) (l₂ := old))
theorem insS_up (hs : old.Pairwise (· ≤ ·)) (hd : ∀ y ∈ old.drop k, x ≤ y) (ht : k = 0 ∨ ∃ y, old[k - 1]? = some y ∧ y ≤ x) : (insS old x k).Pairwise (· ≤ ·) := by
  have hs' := hs
  rw [← List.take_append_drop k old, List.pairwise_append] at hs'
  obtain ⟨p1, p2, p3⟩ := hs'
  unfold insS
  rw [List.pairwise_append, List.pairwise_cons]
  have hax : ∀ a ∈ old.take k, a ≤ x := by
    intro a ha
    rcases ht with rfl | ⟨y, hy, hyx⟩
    · simp at ha
    · cases k with
      | zero => simp at ha
      | succ k =>
        rw [Nat.add_sub_cancel] at hy
        rw [take_at old k y hy] at ha p1
        rw [List.pairwise_append] at p1
        rcases List.mem_append.1 ha with h | h
        · have := p1.2.2 a h y (by simp)
          omega
        · simp at h
          omega
  refine ⟨p1, ⟨hd, p2⟩, fun a ha b hb => ?_⟩
  rcases List.mem_cons.1 hb with rfl | hb
  · exact hax a ha
  · exact p3 a ha b hb
theorem insS_done {p : List Int} (hd : ∀ y ∈ (srtI p).drop k, x ≤ y) (ht : k = 0 ∨ ∃ y, (srtI p)[k - 1]? = some y ∧ y ≤ x) : insS (srtI p) x k = srtI (p ++ [x]) :=
  (srt_is (insS_up (srtI_up p) hd ht) ((insS_perm _ _ _).trans ((srtI_perm p).append_right [x]))).symm
theorem insS_go {y : Int} (hd : ∀ z ∈ old.drop (k + 1), x ≤ z) (h : old[k]? = some y) (hy : x ≤ y) : ∀ z ∈ old.drop k, x ≤ z := by
  intro z hz
  rw [drop_at old k y h] at hz
  rcases List.mem_cons.1 hz with rfl | hz
  · exact hy
  · exact hd z hz
end
end Go.Proofs.Ytibakhobgfiklaa
