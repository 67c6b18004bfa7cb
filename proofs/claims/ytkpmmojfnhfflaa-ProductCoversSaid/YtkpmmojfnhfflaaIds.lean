/-
  Plain facts about the sorted indices of the names that begin with a string: the one list of them, a longer string's part of a shorter one's; the library's order of bytes is ours: no program. Condition: the names are different, where a theorem says so.
-/
import Derived.Test.YtkpmmojfnhfflaaIdt
import Derived.Lib.Bytealg
namespace Go.Proofs.Ytkpmmojfnhfflaa
open Go

theorem cmp_bytes : ∀ a b : List UInt8, Lib.compareBytes a b = cmpL a b
  | [], [] => rfl
  | [], _ :: _ => rfl
  | _ :: _, [] => rfl
  | a :: x, b :: y => by
    unfold Lib.compareBytes cmpL
    simp only [UInt8.lt_iff_toNat_lt]
    rw [cmp_bytes x y]

/-! ### The one list -/
def leN (ls : List (List UInt8)) (i j : Nat) : Bool := decide (cmpL (nameAt ls i) (nameAt ls j) ≤ 0)
/-- The indices of the names that begin with p, in the order of the names. -/
def secL (ls : List (List UInt8)) (p : List UInt8) : List Nat := ((List.range ls.length).filter fun i => beginsB p (nameAt ls i)).mergeSort (leN ls)
theorem name_at {ls : List (List UInt8)} {i : Nat} (h : i < ls.length) : ls[i]? = some (nameAt ls i) := by
  unfold nameAt
  rw [List.getD, List.getElem?_eq_getElem h]
  rfl
theorem name_diff {ls : List (List UInt8)} (h : Good5 ls) {i j : Nat} (hi : i < ls.length) (hj : j < ls.length) (he : nameAt ls i = nameAt ls j) : i = j :=
  good_diff h (name_at hi) (by rw [he]; exact name_at hj)
theorem rises_of {ls : List (List UInt8)} {o : List Nat} (hg : Good5 ls) (hl : ∀ i ∈ o, i < ls.length) (hn : o.Nodup) (hp : o.Pairwise fun i j => leN ls i j = true) : Rises ls o := by
  unfold Rises
  refine List.Pairwise.imp_of_mem ?_ (hp.and hn)
  intro i j hi hj h
  obtain ⟨h1, h2⟩ := h
  unfold leN at h1
  rw [decide_eq_true_iff, cmp_le] at h1
  rcases h1 with h1 | h1
  · exact h1
  · exact absurd (name_diff hg (hl i hi) (hl j hj) h1) h2
theorem leN_trans (ls : List (List UInt8)) (i j k : Nat) (h1 : leN ls i j = true) (h2 : leN ls j k = true) : leN ls i k = true := by
  unfold leN at *
  rw [decide_eq_true_iff] at *
  exact cmp_trans _ _ _ h1 h2
theorem leN_total (ls : List (List UInt8)) (i j : Nat) : (leN ls i j || leN ls j i) = true := by
  unfold leN
  rw [Bool.or_eq_true, decide_eq_true_iff, decide_eq_true_iff]
  have := cmp_neg (nameAt ls i) (nameAt ls j)
  omega
theorem section_of {ls : List (List UInt8)} (hg : Good5 ls) (p : List UInt8) (o : List Nat) (hp : o.Pairwise fun i j => leN ls i j = true) (hm : o.Perm ((List.range ls.length).filter fun i => beginsB p (nameAt ls i))) : Section ls p o := by
  have hmem : ∀ i, i ∈ o ↔ i < ls.length ∧ beginsB p (nameAt ls i) = true := by
    intro i
    rw [hm.mem_iff, List.mem_filter, List.mem_range]
  refine ⟨rises_of hg (fun i hi => ((hmem i).1 hi).1) ?_ hp, hmem⟩
  exact hm.symm.nodup (List.Pairwise.filter _ List.nodup_range)
theorem sec_section {ls : List (List UInt8)} (hg : Good5 ls) (p : List UInt8) : Section ls p (secL ls p) :=
  section_of hg p _ (List.pairwise_mergeSort (leN_trans ls) (leN_total ls) _) (List.mergeSort_perm _ _)
theorem sec_eq {ls : List (List UInt8)} (hg : Good5 ls) {p : List UInt8} {o : List Nat} (h : Section ls p o) : o = secL ls p := section_unique h (sec_section hg p)
theorem sec_perm (ls : List (List UInt8)) (p : List UInt8) : (secL ls p).Perm ((List.range ls.length).filter fun i => beginsB p (nameAt ls i)) := List.mergeSort_perm _ _
theorem sec_len (ls : List (List UInt8)) (p : List UInt8) : (secL ls p).length ≤ ls.length := by
  rw [(sec_perm ls p).length_eq]
  have := List.length_filter_le (fun i => beginsB p (nameAt ls i)) (List.range ls.length)
  rw [List.length_range] at this
  exact this
theorem sec_all (ls : List (List UInt8)) : (secL ls []).length = ls.length := by
  rw [(sec_perm ls []).length_eq, List.filter_eq_self.2 (fun i _ => begins_nil _), List.length_range]
theorem sec_lt {ls : List (List UInt8)} {p : List UInt8} {i : Nat} (h : i ∈ secL ls p) : i < ls.length := by
  rw [(sec_perm ls p).mem_iff, List.mem_filter, List.mem_range] at h
  exact h.1

/-! ### A longer string's part -/
theorem begins_between : ∀ (p x y z : List UInt8), beginsB p x = true → beginsB p z = true → ltL x y → ltL y z → beginsB p y = true
  | [], _, _, _, _, _, _, _ => rfl
  | c :: p, [], _, _, h, _, _, _ => by simp [beginsB] at h
  | c :: p, _ :: _, _, [], _, h, _, _ => by simp [beginsB] at h
  | c :: p, a :: x, [], _ :: _, _, _, h, _ => by simp [ltL, cmpL] at h
  | c :: p, a :: x, d :: y, b :: z, h1, h2, h3, h4 => by
    unfold beginsB at *
    simp only [List.isPrefixOf, Bool.and_eq_true, beq_iff_eq] at *
    obtain ⟨rfl, h1⟩ := h1
    obtain ⟨rfl, h2⟩ := h2
    rw [lt_cons] at h3 h4
    rcases h3 with h3 | ⟨h3, k3⟩
    · rcases h4 with h4 | ⟨h4, k4⟩ <;> omega
    · rcases h4 with h4 | ⟨h4, k4⟩
      · omega
      · exact ⟨UInt8.toNat_inj.1 h3, begins_between p x y z h1 h2 k3 k4⟩
theorem begins_app : ∀ (p q x : List UInt8), beginsB (p ++ q) x = true → beginsB p x = true
  | [], _, _, _ => rfl
  | c :: p, q, [], h => by simp [beginsB] at h
  | c :: p, q, a :: x, h => by
    unfold beginsB at *
    simp only [List.cons_append, List.isPrefixOf, Bool.and_eq_true, beq_iff_eq] at *
    exact ⟨h.1, begins_app p q x h.2⟩
theorem filter_head {α : Type} (P : α → Bool) : ∀ r : List α, r.Pairwise (fun y z => P y = false → P z = false) → (r.filter P).length ≤ r.length ∧ r.take (r.filter P).length = r.filter P
  | [], _ => ⟨Nat.le_refl _, rfl⟩
  | x :: r, h => by
    rw [List.pairwise_cons] at h
    have ih := filter_head P r h.2
    cases hx : P x with
    | true =>
      rw [List.filter_cons_of_pos hx]
      exact ⟨by simpa using ih.1, by rw [List.length_cons, List.take_succ_cons, ih.2]⟩
    | false =>
      rw [List.filter_cons_of_neg (by simp [hx])]
      have : r.filter P = [] := List.filter_eq_nil_iff.2 fun z hz => by rw [h.1 z hz hx]; simp
      rw [this]
      exact ⟨Nat.zero_le _, rfl⟩
theorem filter_run {α : Type} (R : α → α → Prop) (P : α → Bool) (hc : ∀ x y z, R x y → R y z → P x = true → P z = true → P y = true) : ∀ a : List α, a.Pairwise R → ∃ i, i + (a.filter P).length ≤ a.length ∧ (a.drop i).take (a.filter P).length = a.filter P
  | [], _ => ⟨0, Nat.le_refl _, rfl⟩
  | x :: r, h => by
    have h0 := h
    rw [List.pairwise_cons] at h
    cases hx : P x with
    | false =>
      rw [List.filter_cons_of_neg (by simp [hx])]
      obtain ⟨i, h1, h2⟩ := filter_run R P hc r h.2
      exact ⟨i + 1, by rw [List.length_cons]; omega, by rw [List.drop_succ_cons]; exact h2⟩
    | true =>
      have hp : (x :: r).Pairwise fun y z => P y = false → P z = false := by
        rw [List.pairwise_cons]
        refine ⟨fun z _ hxf => absurd hxf (by rw [hx]; simp), ?_⟩
        refine List.Pairwise.imp_of_mem ?_ h.2
        intro y z hy hz hyz hyf
        cases hzt : P z with
        | false => rfl
        | true =>
          have := hc x y z (h.1 y hy) hyz hx hzt
          rw [hyf] at this
          cases this
      have := filter_head P (x :: r) hp
      exact ⟨0, by omega, by rw [List.drop_zero]; exact this.2⟩
/-- The indices of a longer string stand next to one another among those of a shorter one. -/
theorem sec_run {ls : List (List UInt8)} (hg : Good5 ls) (p q : List UInt8) : ∃ i, i + (secL ls (p ++ q)).length ≤ (secL ls p).length ∧ ((secL ls p).drop i).take (secL ls (p ++ q)).length = secL ls (p ++ q) := by
  have hs := sec_section hg p
  have hf : (secL ls p).filter (fun i => beginsB (p ++ q) (nameAt ls i)) = secL ls (p ++ q) := by
    refine sec_eq hg ⟨?_, fun i => ?_⟩
    · exact List.Pairwise.filter _ hs.1
    · rw [List.mem_filter, hs.2]
      constructor
      · rintro ⟨⟨h1, _⟩, h2⟩
        exact ⟨h1, h2⟩
      · rintro ⟨h1, h2⟩
        exact ⟨⟨h1, begins_app p q _ h2⟩, h2⟩
  rw [← hf]
  exact filter_run (fun i j => ltL (nameAt ls i) (nameAt ls j)) _ (fun x y z h1 h2 h3 h4 => begins_between _ _ _ _ h3 h4 h1 h2) _ hs.1
/-- Prefixes told by a part. -/
theorem begins_iff : ∀ p x : List UInt8, beginsB p x = (decide (p.length ≤ x.length) && decide (x.take p.length = p))
  | [], x => by simp [beginsB]
  | c :: p, [] => by simp [beginsB]
  | c :: p, a :: x => by
    have := begins_iff p x
    unfold beginsB at *
    simp only [List.isPrefixOf, this, List.length_cons, Nat.add_le_add_iff_right, List.take_succ_cons, List.cons.injEq]
    by_cases h : c = a
    · subst h; simp
    · have h2 : ¬ a = c := fun e => h e.symm
      simp [h, h2]
end Go.Proofs.Ytkpmmojfnhfflaa
