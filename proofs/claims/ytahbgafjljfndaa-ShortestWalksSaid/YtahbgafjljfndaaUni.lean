/-
  Plain facts about components found by joining nodes: each node leads to an earlier one, the last of which is its first node; the numbers that come of it: no program. Condition: none beyond each theorem's own hypotheses.
-/
import Derived.Test.YtahbgafjljfndaaCmpn
namespace Go.Proofs.Ytahbgafjljfndaa
open Go

/-- From i one comes to the root r. -/
inductive Rt (par : List Int) : Nat → Nat → Prop
  | root {i : Nat} : par.getD i 0 = (i : Int) → Rt par i i
  | step {i p r : Nat} : par.getD i 0 = (p : Int) → p < i → Rt par p r → Rt par i r
variable {par : List Int} {L : List Ed} {n : Nat}
theorem Rt.is_root {i r : Nat} (h : Rt par i r) : par.getD r 0 = (r : Int) := by
  induction h with
  | root h => exact h
  | step _ _ _ ih => exact ih
theorem Rt.le {i r : Nat} (h : Rt par i r) : r ≤ i := by
  induction h with
  | root _ => exact Nat.le_refl _
  | step _ h _ ih => omega
theorem Rt.uniq {i r s : Nat} (h : Rt par i r) (h' : Rt par i s) : r = s := by
  induction h with
  | root h =>
    cases h' with
    | root _ => rfl
    | step a b c => omega
  | step h1 h2 h3 ih =>
    cases h' with
    | root a => omega
    | step a b c =>
      rename_i p r p'
      have : p = p' := by omega
      subst this
      exact ih c
/-- The state: each node leads to an earlier one that is connected with it. -/
structure Uf (L : List Ed) (n : Nat) (par : List Int) : Prop where
  len : par.length = n
  low : ∀ i, i < n → ∃ p : Nat, par.getD i 0 = (p : Int) ∧ p ≤ i ∧ Cn L i p
theorem Uf.rt (h : Uf L n par) : ∀ i, i < n → ∃ r, Rt par i r := by
  intro i
  induction i using Nat.strongRecOn with
  | ind i ih =>
    intro hi
    obtain ⟨p, hp, hle, _⟩ := h.low i hi
    by_cases e : p = i
    · subst e; exact ⟨p, .root hp⟩
    · obtain ⟨r, hr⟩ := ih p (by omega) (by omega)
      exact ⟨r, .step hp (by omega) hr⟩
theorem Uf.cn (h : Uf L n par) {i r : Nat} (hr : Rt par i r) : i < n → Cn L i r := by
  induction hr with
  | root _ => intro _; exact Cn.refl _ _
  | step a b c ih =>
    intro hi
    obtain ⟨p, hp, hle, hc⟩ := h.low _ hi
    rw [a] at hp
    have := Int.ofNat.inj hp
    subst this
    exact hc.trans (ih (by omega))
theorem uf_start (L : List Ed) (n : Nat) : Uf L n (labS n) := ⟨labS_length n, fun i hi => ⟨i, labS_at hi, Nat.le_refl _, Cn.refl _ _⟩⟩
theorem getI_set {d : List Int} {i j : Nat} {x : Int} (hi : i < d.length) : (d.set i x).getD j 0 = if i = j then x else d.getD j 0 := by
  rw [getD_set]
  by_cases h : i = j
  · rw [if_pos ⟨h, hi⟩, if_pos h]
  · rw [if_neg (fun x => h x.1), if_neg h]
/-- Two roots are joined: the greater one leads to the smaller one. -/
theorem Rt.join {x y : Nat} (hx : x < par.length) (hxy : y < x) (rx : par.getD x 0 = (x : Int)) (ry : par.getD y 0 = (y : Int)) {i r : Nat} (h : Rt par i r) : Rt (par.set x (y : Int)) i (if r = x then y else r) := by
  have gy : (par.set x (y : Int)).getD y 0 = (y : Int) := by rw [getI_set hx, if_neg (by omega)]; exact ry
  have gx : (par.set x (y : Int)).getD x 0 = (y : Int) := by rw [getI_set hx, if_pos rfl]
  induction h with
  | root h =>
    rename_i i
    by_cases e : i = x
    · subst e
      rw [if_pos rfl]
      exact .step gx hxy (.root gy)
    · rw [if_neg e]
      exact .root (by rw [getI_set hx, if_neg (fun a => e a.symm)]; exact h)
  | step a b c ih =>
    rename_i i p r
    have e : ¬ x = i := fun e => by subst e; omega
    exact .step (by rw [getI_set hx, if_neg e]; exact a) b ih
theorem Rt.same {i r : Nat} {x : Nat} (hx : x < par.length) (rx : par.getD x 0 = (x : Int)) (h : Rt par i r) : Rt (par.set x (x : Int)) i r := by
  have e : ∀ j, (par.set x (x : Int)).getD j 0 = par.getD j 0 := fun j => by
    rw [getI_set hx]
    split
    · next h => rw [← h, rx]
    · rfl
  induction h with
  | root h => exact .root (by rw [e]; exact h)
  | step a b c ih => exact .step (by rw [e]; exact a) b ih
/-- Each edge so far joins nodes of one root. -/
def Jn (par : List Int) (es : List Ed) : Prop := ∀ e ∈ es, ∃ r, Rt par e.1 r ∧ Rt par e.2.1 r
theorem Uf.merge {es : List Ed} {e : Ed} (h : Uf L n par) (hj : Jn par es) (he : e ∈ L) (hl : Inn L n) {x y : Nat} (hx : Rt par e.1 x) (hy : Rt par e.2.1 y) : Uf L n (par.set (max x y) ((min x y : Nat) : Int)) ∧ Jn (par.set (max x y) ((min x y : Nat) : Int)) (es ++ [e]) := by
  have hn := hl e he
  have hxn : x < n := Nat.lt_of_le_of_lt hx.le hn.1
  have hyn : y < n := Nat.lt_of_le_of_lt hy.le hn.2
  have hc : Cn L x y := ((h.cn hx hn.1).symm.trans (Cn.edge (w := e.2.2) he)).trans (h.cn hy hn.2)
  have hml : max x y < par.length := by rw [h.len]; omega
  have cmm : Cn L (max x y) (min x y) := by
    rcases Nat.le_total x y with a | a
    · rw [Nat.max_eq_right a, Nat.min_eq_left a]; exact hc.symm
    · rw [Nat.max_eq_left a, Nat.min_eq_right a]; exact hc
  refine ⟨⟨by rw [List.length_set]; exact h.len, fun i hi => ?_⟩, ?_⟩
  · rw [getI_set hml]
    split
    · next e =>
      subst e
      exact ⟨_, rfl, by omega, cmm⟩
    · exact h.low i hi
  · -- how the roots turn
    have key : ∀ {i j r : Nat}, Rt par i r → Rt par j r → ∃ s, Rt (par.set (max x y) ((min x y : Nat) : Int)) i s ∧ Rt (par.set (max x y) ((min x y : Nat) : Int)) j s := by
      intro i j r hi hj
      rcases Nat.lt_trichotomy x y with a | a | a
      · rw [Nat.max_eq_right (Nat.le_of_lt a), Nat.min_eq_left (Nat.le_of_lt a)]
        exact ⟨_, hi.join (by omega) a hy.is_root hx.is_root, hj.join (by omega) a hy.is_root hx.is_root⟩
      · subst a
        rw [Nat.max_self, Nat.min_self]
        exact ⟨_, hi.same (by omega) hx.is_root, hj.same (by omega) hx.is_root⟩
      · rw [Nat.max_eq_left (Nat.le_of_lt a), Nat.min_eq_right (Nat.le_of_lt a)]
        exact ⟨_, hi.join (by omega) a hx.is_root hy.is_root, hj.join (by omega) a hx.is_root hy.is_root⟩
    intro d hd
    rcases List.mem_append.1 hd with hd | hd
    · obtain ⟨r, h1, h2⟩ := hj d hd
      exact key h1 h2
    · obtain rfl := List.mem_singleton.1 hd
      rcases Nat.lt_trichotomy x y with a | a | a
      · rw [Nat.max_eq_right (Nat.le_of_lt a), Nat.min_eq_left (Nat.le_of_lt a)]
        have h1 := hx.join (by omega) a hy.is_root hx.is_root
        have h2 := hy.join (by omega) a hy.is_root hx.is_root
        rw [if_neg (by omega)] at h1
        rw [if_pos rfl] at h2
        exact ⟨x, h1, h2⟩
      · subst a
        rw [Nat.max_self, Nat.min_self]
        exact ⟨x, hx.same (by omega) hx.is_root, hy.same (by omega) hx.is_root⟩
      · rw [Nat.max_eq_left (Nat.le_of_lt a), Nat.min_eq_right (Nat.le_of_lt a)]
        have h1 := hx.join (by omega) a hx.is_root hy.is_root
        have h2 := hy.join (by omega) a hx.is_root hy.is_root
        rw [if_pos rfl] at h1
        rw [if_neg (by omega)] at h2
        exact ⟨y, h1, h2⟩
/-- At the end the root is the first node. -/
theorem Uf.fst (h : Uf L n par) (hj : Jn par L) (hl : Inn L n) {i : Nat} (hi : i < n) {r : Nat} (hr : Rt par i r) : Fst L i r := by
  refine ⟨h.cn hr hi, fun b hc => ?_⟩
  -- connected nodes have one root
  have key : ∀ {k a W : Nat}, Wl (bothL L) b k a W → a < n → ∀ {s : Nat}, Rt par a s → Rt par b s := by
    intro k
    induction k with
    | zero => rintro a W ⟨rfl, _⟩ _ s hs; exact hs
    | succ k ih =>
      rintro a W ⟨m, w, V, he, hw, _⟩ ha s hs
      have hin := hl.both _ he
      refine ih hw hin.2 ?_
      rcases List.mem_append.1 he with he | he
      · obtain ⟨q, h1, h2⟩ := hj _ he
        rw [hs.uniq h1]
        exact h2
      · have he' := mem_turn he
        rw [turn_turn] at he'
        obtain ⟨q, h1, h2⟩ := hj _ he'
        rw [hs.uniq h2]
        exact h1
  obtain ⟨k, W, hw⟩ := hc
  exact (key hw hi hr).le
/-- The node that is led to is the first node exactly of a first node; the first node of what it leads to is its own. -/
theorem Uf.first (h : Uf L n par) (hj : Jn par L) (hl : Inn L n) {i : Nat} (hi : i < n) : (par.getD i 0 = (i : Int) ∧ (firstL n L).getD i 0 = (i : Int)) ∨ ∃ p : Nat, par.getD i 0 = (p : Int) ∧ p < i ∧ (firstL n L).getD i 0 ≠ (i : Int) ∧ (firstL n L).getD p 0 = (firstL n L).getD i 0 := by
  obtain ⟨f, hf, hF⟩ := firstL_spec hl hi
  obtain ⟨r, hr⟩ := h.rt i hi
  have e := hF.uniq (h.fst hj hl hi hr)
  subst e
  cases hr with
  | root a => exact .inl ⟨a, hf⟩
  | step a b c =>
    rename_i p
    have hp : p < n := by omega
    obtain ⟨g, hg, hG⟩ := firstL_spec hl hp
    have e2 := hG.uniq (h.fst hj hl hp c)
    subst e2
    refine .inr ⟨p, a, b, ?_, by rw [hf, hg]⟩
    rw [hf]
    have := c.le
    omega
/-- The reference's numbers, one after another. -/
theorem comp_first {i : Nat} (hl : Inn L n) (hi : i < n) : ∃ f : Nat, (firstL n L).getD i 0 = (f : Int) ∧ f ≤ i ∧ (firstL n L).getD f 0 = (f : Int) := by
  obtain ⟨f, hf, hF⟩ := firstL_spec hl hi
  have hfi : f ≤ i := hF.2 _ (Cn.refl _ _)
  obtain ⟨g, hg, hG⟩ := firstL_spec hl (show f < n by omega)
  have := hG.uniq hF.same
  subst this
  exact ⟨g, hf, hfi, hg⟩
/-- What stands in the list of numbers. -/
theorem num_root {f : List Int} {i : Nat} (hi : i < f.length) (h : f.getD i 0 = (i : Int)) : (compL f)[i]? = some ((rank f i : Nat) : Int) := by
  rw [compL_at hi, h]
  rfl
theorem num_same {f : List Int} {i p : Nat} (hi : i < f.length) (hp : p < f.length) (h : f.getD p 0 = f.getD i 0) : (compL f)[i]? = (compL f)[p]? := by
  rw [compL_at hi, compL_at hp, h]
end Go.Proofs.Ytahbgafjljfndaa
