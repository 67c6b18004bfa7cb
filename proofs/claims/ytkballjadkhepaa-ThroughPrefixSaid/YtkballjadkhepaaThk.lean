/-
  Plain facts about tables of through services and guaranteed changes: the passage from one trip to another, the meeting of two lists of calls, the first one that is not valid, what follows for accepted ones: no program. Condition: none beyond each theorem's own hypotheses.
-/
import Derived.Test.YtkballjadkhepaaThr
namespace Go.Proofs.Ytkballjadkhepaa
open Go Go.RowKit

/-! ### The first bad one of a beginning -/
theorem fb_take {κ α : Type} {bad : List κ → α → Int} {key : α → κ} : ∀ (l : List α) (seen : List κ) (k j : Nat), (fbF bad key seen k l).2 = 0 → (fbF bad key seen k (l.take j)).2 = 0
  | l, seen, k, 0, _ => by rw [List.take_zero]; rfl
  | [], seen, k, j + 1, _ => rfl
  | x :: r, seen, k, j + 1, h => by
    rw [List.take_succ_cons]
    unfold fbF at h ⊢
    by_cases hb : bad seen x = 0
    · rw [if_pos hb] at h ⊢
      exact fb_take r _ _ j h
    · rw [if_neg hb] at h
      exact absurd h hb
theorem fb_good {κ α : Type} {bad : List κ → α → Int} {key : α → κ} : ∀ (r l : List α) (k : Nat), l.drop k = r → (fbF bad key ((l.take k).map key) k r).2 = 0 → ∀ (j : Nat) (x : α), k ≤ j → l[j]? = some x → bad ((l.take j).map key) x = 0
  | [], l, k, hd, _, j, x, hk, hx => by
    have h1 := (List.getElem?_eq_some_iff.1 hx).1
    have h2 := congrArg List.length hd
    rw [List.length_drop, List.length_nil] at h2
    omega
  | y :: r, l, k, hd, h, j, x, hk, hx => by
    have hy : l[k]? = some y := by
      have h0 : (l.drop k)[0]? = some y := by rw [hd]; rfl
      rw [List.getElem?_drop] at h0
      exact h0
    have hr : l.drop (k + 1) = r := by
      rw [drop_at l k y hy] at hd
      exact (List.cons.inj hd).2
    unfold fbF at h
    by_cases hb : bad ((l.take k).map key) y = 0
    · rw [if_pos hb, ← key_take hy] at h
      rcases Nat.lt_or_ge k j with hlt | hge
      · exact fb_good r l (k + 1) hr h j x hlt hx
      · obtain rfl : j = k := by omega
        rw [hy] at hx
        obtain rfl := Option.some.inj hx
        exact hb
    · rw [if_neg hb] at h
      exact absurd h hb

/-! ### The passage from one trip to another -/
/-- The error of the passage. -/
def psE (a b : Tc) : Int :=
  if a.1 ≠ b.1 then 15 else
  match a.2[a.2.length - 1]?, b.2[0]? with
  | some x, some y => if x.1 ≠ y.1 then 13 else if y.2.2.1 < x.2.1 then 10 else 0
  | _, _ => 13
section
variable {a b : Tc} {x y : Cl}
theorem ps_cal (h : a.1 ≠ b.1) : psE a b = 15 := by unfold psE; rw [if_pos h]
theorem ps_from (h : a.1 = b.1) (h1 : a.2.length = 0) : psE a b = 13 := by
  unfold psE
  rw [if_neg (by simp [h]), List.getElem?_eq_none (by omega)]
theorem ps_to (h : a.1 = b.1) (h1 : b.2.length = 0) : psE a b = 13 := by
  unfold psE
  rw [if_neg (by simp [h]), List.getElem?_eq_none (l := b.2) (by omega)]
  split
  · next h2 => cases h2
  · rfl
theorem ps_stop (h : a.1 = b.1) (hx : a.2[a.2.length - 1]? = some x) (hy : b.2[0]? = some y) (hs : x.1 ≠ y.1) : psE a b = 13 := by
  unfold psE
  rw [if_neg (by simp [h]), hx, hy]
  exact if_pos hs
theorem ps_time (h : a.1 = b.1) (hx : a.2[a.2.length - 1]? = some x) (hy : b.2[0]? = some y) (hs : x.1 = y.1) (ht : y.2.2.1 < x.2.1) : psE a b = 10 := by
  unfold psE
  rw [if_neg (by simp [h]), hx, hy]
  show (if x.1 ≠ y.1 then (13 : Int) else if y.2.2.1 < x.2.1 then 10 else 0) = 10
  rw [if_neg (by simp [hs]), if_pos ht]
theorem ps_ok (h : a.1 = b.1) (hx : a.2[a.2.length - 1]? = some x) (hy : b.2[0]? = some y) (hs : x.1 = y.1) (ht : ¬ y.2.2.1 < x.2.1) : psE a b = 0 := by
  unfold psE
  rw [if_neg (by simp [h]), hx, hy]
  show (if x.1 ≠ y.1 then (13 : Int) else if y.2.2.1 < x.2.1 then 10 else 0) = 0
  rw [if_neg (by simp [hs]), if_neg ht]
theorem ps_good (h : psE a b = 0) : ∃ x y, a.2[a.2.length - 1]? = some x ∧ b.2[0]? = some y ∧ x.1 = y.1 ∧ ¬ y.2.2.1 < x.2.1 := by
  unfold psE at h
  split at h
  · omega
  · split at h
    · next x y hx hy =>
      split at h
      · omega
      · next hs =>
        split at h
        · omega
        · next ht => exact ⟨x, y, hx, hy, Decidable.not_not.1 hs, ht⟩
    · omega
end

/-! ### The meeting of two lists of calls -/
/-- A call at which passengers can alight, board. -/
def alP (st : Int) (x : Cl) : Bool := decide (x.1 = st) && x.2.2.2.2
def bdP (st : Int) (x : Cl) : Bool := decide (x.1 = st) && x.2.2.2.1
theorem alP_stop {st : Int} {x : Cl} (h : x.1 ≠ st) : alP st x = false := by unfold alP; rw [decide_eq_false h]; rfl
theorem alP_flag {st : Int} {x : Cl} (h : x.2.2.2.2 = false) : alP st x = false := by unfold alP; rw [h, Bool.and_false]
theorem alP_yes {st : Int} {x : Cl} (h : x.1 = st) (k : x.2.2.2.2 = true) : alP st x = true := by unfold alP; rw [decide_eq_true h, k]; rfl
theorem alP_is {st : Int} {x : Cl} (h : alP st x = true) : x.1 = st ∧ x.2.2.2.2 = true := by unfold alP at h; rw [Bool.and_eq_true, decide_eq_true_iff] at h; exact h
theorem bdP_stop {st : Int} {x : Cl} (h : x.1 ≠ st) : bdP st x = false := by unfold bdP; rw [decide_eq_false h]; rfl
theorem bdP_flag {st : Int} {x : Cl} (h : x.2.2.2.1 = false) : bdP st x = false := by unfold bdP; rw [h, Bool.and_false]
theorem bdP_yes {st : Int} {x : Cl} (h : x.1 = st) (k : x.2.2.2.1 = true) : bdP st x = true := by unfold bdP; rw [decide_eq_true h, k]; rfl
theorem bdP_is {st : Int} {x : Cl} (h : bdP st x = true) : x.1 = st ∧ x.2.2.2.1 = true := by unfold bdP at h; rw [Bool.and_eq_true, decide_eq_true_iff] at h; exact h
/-- The first call, from this index on, at which one can alight; other than the call 0. -/
def alF (st : Int) (k : Nat) (l : List Cl) : Int := fdF (alP st) (max k 1) (l.drop (max k 1))
/-- The first call, from this index on, at which one can board; other than the last. -/
def bdF (st : Int) (k : Nat) (l : List Cl) : Int := fdF (bdP st) k (l.dropLast.drop k)
section
variable {st : Int} {l : List Cl} {q : Int} {k : Nat} {x : Cl}
theorem al_skip (hr : q = alF st 0 l) : q = alF st 1 l := hr
theorem al_hit (hr : q = alF st k l) (hk : 0 < k) (h : l[k]? = some x) (hp : alP st x = true) : q = (k : Int) := by
  unfold alF at hr
  rw [Nat.max_eq_left hk] at hr
  exact fd_hit hr h hp
theorem al_miss (hr : q = alF st k l) (hk : 0 < k) (h : l[k]? = some x) (hp : alP st x = false) : q = alF st (k + 1) l := by
  unfold alF at hr ⊢
  rw [Nat.max_eq_left hk] at hr
  rw [Nat.max_eq_left (by omega)]
  exact fd_miss hr h hp
theorem al_end (hr : q = alF st k l) (h : l.length ≤ k) : q = -1 := by
  unfold alF at hr
  exact fd_end hr (by omega)
theorem last_at (h : l[k]? = some x) (hk : k < l.length - 1) : l.dropLast[k]? = some x := by
  rw [List.getElem?_dropLast, if_pos hk]
  exact h
theorem bd_hit (hr : q = bdF st k l) (h : l[k]? = some x) (hk : k < l.length - 1) (hp : bdP st x = true) : q = (k : Int) := fd_hit hr (last_at h hk) hp
theorem bd_miss (hr : q = bdF st k l) (h : l[k]? = some x) (hk : k < l.length - 1) (hp : bdP st x = false) : q = bdF st (k + 1) l := fd_miss hr (last_at h hk) hp
theorem bd_end (hr : q = bdF st k l) (h : l.length - 1 ≤ k) : q = -1 := fd_end hr (by rw [List.length_dropLast]; exact h)
end
/-- The first from an index on with a property: none before it has it. -/
theorem fdF_before {α : Type} (p : α → Bool) : ∀ (l : List α) (k j : Nat), fdF p k l = ((k + j : Nat) : Int) → ∀ (i : Nat) x, i < j → l[i]? = some x → p x = false
  | [], k, j, h, i, x, hi, hx => by simp at hx
  | y :: r, k, j, h, i, x, hi, hx => by
    unfold fdF at h
    split at h
    · omega
    · next hy =>
      cases i with
      | zero =>
        simp at hx
        subst hx
        exact Bool.eq_false_iff.2 hy
      | succ i =>
        rw [List.getElem?_cons_succ] at hx
        exact fdF_before p r (k + 1) (j - 1) (by rw [h]; congr 1; omega) i x (by omega) hx
/-- What is known of the call at which one can alight. -/
theorem al_is (st : Int) (l : List Cl) : alF st 0 l = -1 ∨ ∃ (i : Nat) (x : Cl), alF st 0 l = (i : Int) ∧ 1 ≤ i ∧ l[i]? = some x ∧ alP st x = true ∧ ∀ (j : Nat) (y : Cl), 1 ≤ j → j < i → l[j]? = some y → alP st y = false := by
  rcases Decidable.em (alF st 0 l = -1) with h | h
  · exact .inl h
  · have h' : fdF (alP st) 1 (l.drop 1) ≠ -1 := h
    obtain ⟨j, x, h1, h2, h3⟩ := fdF_mem _ _ _ h'
    refine .inr ⟨1 + j, x, h3, by omega, by rw [← h1, List.getElem?_drop], h2, fun i y hi hj hy => ?_⟩
    obtain ⟨m, rfl⟩ : ∃ m, i = 1 + m := ⟨i - 1, by omega⟩
    exact fdF_before _ _ _ _ h3 m y (by omega) (by rw [List.getElem?_drop]; exact hy)
theorem bd_is (st : Int) (l : List Cl) : bdF st 0 l = -1 ∨ ∃ (i : Nat) (x : Cl), bdF st 0 l = (i : Int) ∧ i + 1 < l.length ∧ l[i]? = some x ∧ bdP st x = true ∧ ∀ (j : Nat) (y : Cl), j < i → l[j]? = some y → bdP st y = false := by
  rcases Decidable.em (bdF st 0 l = -1) with h | h
  · exact .inl h
  · have h' : fdF (bdP st) 0 (l.dropLast.drop 0) ≠ -1 := h
    obtain ⟨i, x, h1, h2, h3⟩ := fdF_mem _ _ _ h'
    rw [List.drop_zero] at h1
    have hi := (List.getElem?_eq_some_iff.1 h1).1
    rw [List.length_dropLast] at hi
    refine .inr ⟨i, x, by rw [Nat.zero_add] at h3; exact h3, by omega, ?_, h2, fun j y hj hy => ?_⟩
    · rw [List.getElem?_dropLast, if_pos (by omega)] at h1
      exact h1
    · exact fdF_before _ _ _ _ h3 j y hj (by rw [List.drop_zero]; exact last_at hy (by omega))
/-- What Meets answers. -/
def meT (st : Int) (a b : List Cl) : Int × Int × Bool :=
  match a[(alF st 0 a).toNat]?, b[(bdF st 0 b).toNat]? with
  | some x, some y => if alF st 0 a = -1 ∨ bdF st 0 b = -1 ∨ y.2.2.1 < x.2.1 then (0, 0, false) else (alF st 0 a, bdF st 0 b, true)
  | _, _ => (0, 0, false)
section
variable {st : Int} {a b : List Cl} {x y : Cl} {i k : Nat}
theorem me_from (h : alF st 0 a = -1) : meT st a b = (0, 0, false) := by
  unfold meT
  split
  · rw [if_pos (.inl h)]
  · rfl
theorem me_to (h : bdF st 0 b = -1) : meT st a b = (0, 0, false) := by
  unfold meT
  split
  · rw [if_pos (.inr (.inl h))]
  · rfl
theorem me_late (hi : alF st 0 a = (i : Int)) (hk : bdF st 0 b = (k : Int)) (hx : a[i]? = some x) (hy : b[k]? = some y) (h : y.2.2.1 < x.2.1) : meT st a b = (0, 0, false) := by
  unfold meT
  rw [hi, hk, Int.toNat_natCast, Int.toNat_natCast, hx, hy]
  exact if_pos (.inr (.inr h))
theorem me_yes (hi : alF st 0 a = (i : Int)) (hk : bdF st 0 b = (k : Int)) (hx : a[i]? = some x) (hy : b[k]? = some y) (h : ¬ y.2.2.1 < x.2.1) : meT st a b = ((i : Int), (k : Int), true) := by
  unfold meT
  rw [hi, hk, Int.toNat_natCast, Int.toNat_natCast, hx, hy]
  exact if_neg (by omega)
end
/-- What is known of a meeting. -/
theorem me_is (st : Int) (a b : List Cl) : meT st a b = (0, 0, false) ∨ ∃ (i k : Nat) (x y : Cl), meT st a b = ((i : Int), (k : Int), true) ∧ 1 ≤ i ∧ k + 1 < b.length ∧ a[i]? = some x ∧ b[k]? = some y ∧ alP st x = true ∧ bdP st y = true ∧ ¬ y.2.2.1 < x.2.1 ∧
    (∀ (j : Nat) (z : Cl), 1 ≤ j → j < i → a[j]? = some z → alP st z = false) ∧ ∀ (j : Nat) (z : Cl), j < k → b[j]? = some z → bdP st z = false := by
  rcases al_is st a with h | ⟨i, x, h1, h2, h3, h4, h5⟩
  · exact .inl (me_from h)
  rcases bd_is st b with h | ⟨k, y, g1, g2, g3, g4, g5⟩
  · exact .inl (me_to h)
  by_cases ht : y.2.2.1 < x.2.1
  · exact .inl (me_late h1 g1 h3 g3 ht)
  · exact .inr ⟨i, k, x, y, me_yes h1 g1 h3 g3 ht, h2, g2, h3, g3, h4, g4, ht, h5, g5⟩

/-! ### The first through service that is not valid -/
/-- The trip with this index. -/
def tcA (ts : List Tc) (i : Int) : Tc := ts[i.toNat]?.getD (0, [])
theorem tcA_at {ts : List Tc} {i : Int} {k : Nat} {x : Tc} (hi : i = (k : Int)) (h : ts[k]? = some x) : tcA ts i = x := by
  unfold tcA
  rw [hi, Int.toNat_natCast, h]
  rfl
/-- What both kinds of tables have in common. -/
def prE (n : Nat) (f : List Fq) (a b : Int) : Int := if ¬ (0 ≤ a ∧ a < (n : Int)) ∨ ¬ (0 ≤ b ∧ b < (n : Int)) ∨ a = b then 9 else if repF a f || repF b f then 17 else 0
section
variable {n : Nat} {f : List Fq} {a b : Int}
theorem pr_a (h : ¬ (0 ≤ a ∧ a < (n : Int))) : prE n f a b = 9 := by unfold prE; rw [if_pos (.inl h)]
theorem pr_b (h : ¬ (0 ≤ b ∧ b < (n : Int))) : prE n f a b = 9 := by unfold prE; rw [if_pos (.inr (.inl h))]
theorem pr_ab (h : a = b) : prE n f a b = 9 := by unfold prE; rw [if_pos (.inr (.inr h))]
theorem pr_fa (h1 : 0 ≤ a ∧ a < (n : Int)) (h2 : 0 ≤ b ∧ b < (n : Int)) (h3 : a ≠ b) (h : repF a f = true) : prE n f a b = 17 := by
  unfold prE
  rw [if_neg (by omega), h]
  rfl
theorem pr_fb (h1 : 0 ≤ a ∧ a < (n : Int)) (h2 : 0 ≤ b ∧ b < (n : Int)) (h3 : a ≠ b) (h : repF b f = true) : prE n f a b = 17 := by
  unfold prE
  rw [if_neg (by omega), h, Bool.or_true]
  rfl
theorem pr_ok (h1 : 0 ≤ a ∧ a < (n : Int)) (h2 : 0 ≤ b ∧ b < (n : Int)) (h3 : a ≠ b) (h : repF a f = false) (h' : repF b f = false) : prE n f a b = 0 := by
  unfold prE
  rw [if_neg (by omega), h, h']
  rfl
theorem pr_good (h : prE n f a b = 0) : (0 ≤ a ∧ a < (n : Int)) ∧ (0 ≤ b ∧ b < (n : Int)) ∧ a ≠ b ∧ repF a f = false ∧ repF b f = false := by
  unfold prE at h
  split at h
  · omega
  · next h1 =>
    split at h
    · omega
    · next h2 =>
      have := Bool.eq_false_iff.2 h2
      rw [Bool.or_eq_false_iff] at this
      refine ⟨by omega, by omega, by omega, this⟩
theorem pr_is : prE n f a b = 9 ∨ prE n f a b = 17 ∨ prE n f a b = 0 := by
  unfold prE
  split
  · exact .inl rfl
  · split
    · exact .inr (.inl rfl)
    · exact .inr (.inr rfl)
end
/-- The error of a through service behind the earlier ones. -/
def thE (ts : List Tc) (f : List Fq) (seen : List Th) (x : Th) : Int :=
  if prE ts.length f x.1 x.2 ≠ 0 then prE ts.length f x.1 x.2 else
  if psE (tcA ts x.1) (tcA ts x.2) ≠ 0 then psE (tcA ts x.1) (tcA ts x.2) else
  if x.1 ∈ seen.map Prod.fst ∨ x.2 ∈ seen.map Prod.snd then 6 else if x.1 ∈ chT seen x.2 then 19 else 0
section
variable {ts : List Tc} {f : List Fq} {seen : List Th} {x : Th}
theorem th_pair (h : prE ts.length f x.1 x.2 ≠ 0) : thE ts f seen x = prE ts.length f x.1 x.2 := by unfold thE; rw [if_pos h]
theorem th_pass (h1 : prE ts.length f x.1 x.2 = 0) (h : psE (tcA ts x.1) (tcA ts x.2) ≠ 0) : thE ts f seen x = psE (tcA ts x.1) (tcA ts x.2) := by
  unfold thE
  rw [if_neg (by simp [h1]), if_pos h]
theorem th_from (h1 : prE ts.length f x.1 x.2 = 0) (h2 : psE (tcA ts x.1) (tcA ts x.2) = 0) (h : x.1 ∈ seen.map Prod.fst) : thE ts f seen x = 6 := by
  unfold thE
  rw [if_neg (by simp [h1]), if_neg (by simp [h2]), if_pos (.inl h)]
theorem th_to (h1 : prE ts.length f x.1 x.2 = 0) (h2 : psE (tcA ts x.1) (tcA ts x.2) = 0) (h : x.2 ∈ seen.map Prod.snd) : thE ts f seen x = 6 := by
  unfold thE
  rw [if_neg (by simp [h1]), if_neg (by simp [h2]), if_pos (.inr h)]
theorem th_link (h1 : prE ts.length f x.1 x.2 = 0) (h2 : psE (tcA ts x.1) (tcA ts x.2) = 0) (h3 : x.1 ∉ seen.map Prod.fst) (h4 : x.2 ∉ seen.map Prod.snd) (h : x.1 ∈ chT seen x.2) : thE ts f seen x = 19 := by
  unfold thE
  rw [if_neg (by simp [h1]), if_neg (by simp [h2]), if_neg (by rintro (h | h); exact h3 h; exact h4 h), if_pos h]
theorem th_ok (h1 : prE ts.length f x.1 x.2 = 0) (h2 : psE (tcA ts x.1) (tcA ts x.2) = 0) (h3 : x.1 ∉ seen.map Prod.fst) (h4 : x.2 ∉ seen.map Prod.snd) (h : x.1 ∉ chT seen x.2) : thE ts f seen x = 0 := by
  unfold thE
  rw [if_neg (by simp [h1]), if_neg (by simp [h2]), if_neg (by rintro (h | h); exact h3 h; exact h4 h), if_neg h]
theorem th_good (h : thE ts f seen x = 0) : prE ts.length f x.1 x.2 = 0 ∧ psE (tcA ts x.1) (tcA ts x.2) = 0 ∧ x.1 ∉ seen.map Prod.fst ∧ x.2 ∉ seen.map Prod.snd ∧ x.1 ∉ chT seen x.2 := by
  unfold thE at h
  split at h
  · next h1 => exact absurd h h1
  next h1 =>
  split at h
  · next h2 => exact absurd h h2
  next h2 =>
  split at h
  · omega
  next h3 =>
  rw [not_or] at h3
  split at h
  · omega
  · next h4 => exact ⟨Decidable.not_not.1 h1, Decidable.not_not.1 h2, h3.1, h3.2, h4⟩
end
/-- A through service, a guaranteed change as its own key. -/
abbrev idP (x : Th) : Th := x
abbrev idG (x : Gt) : Gt := x
/-- What Check answers. -/
def chkH (ts : List Tc) (f : List Fq) (l : List Th) : Int × Int := if 128 < l.length then (0, 5) else fbF (thE ts f) idP [] 0 l
theorem map_idP (l : List Th) : l.map idP = l := List.map_id' l
theorem map_idG (l : List Gt) : l.map idG = l := List.map_id' l
section
variable {ts : List Tc} {f : List Fq} {l : List Th}
theorem chkH_many (h : 128 < l.length) : chkH ts f l = (0, 5) := by unfold chkH; rw [if_pos h]
theorem chkH_start (h : ¬ 128 < l.length) : chkH ts f l = fbF (thE ts f) idP ((l.take 0).map idP) 0 (l.drop 0) := by unfold chkH; rw [if_neg h]; rfl
theorem accH_len (h : (chkH ts f l).2 = 0) : l.length ≤ 128 := by
  rcases Nat.lt_or_ge 128 l.length with h1 | h1
  · rw [chkH_many h1] at h; cases h
  · exact h1
theorem accH (h : (chkH ts f l).2 = 0) {j : Nat} {x : Th} (hx : l[j]? = some x) : thE ts f (l.take j) x = 0 := by
  have hl := accH_len h
  rw [chkH_start (by omega)] at h
  have := fb_good (l.drop 0) l 0 rfl h j x (Nat.zero_le _) hx
  rw [map_idP] at this
  exact this
theorem chkH_take (h : (chkH ts f l).2 = 0) (j : Nat) : (chkH ts f (l.take j)).2 = 0 := by
  have hl := accH_len h
  unfold chkH at h ⊢
  rw [if_neg (by omega)] at h
  rw [if_neg (by rw [List.length_take]; omega)]
  exact fb_take l [] 0 j h
theorem accH_back (h : (chkH ts f l).2 = 0) : ∀ k, k ≤ l.length → NoBack (l.take k)
  | 0, _ => by rw [List.take_zero]; exact no_back_nil
  | k + 1, hk => by
    obtain ⟨⟨a, b⟩, hx⟩ := at_lt (l := l) (k := k) (by omega)
    obtain ⟨-, -, h3, -, h5⟩ := th_good (accH h hx)
    rw [take_at l k _ hx]
    exact no_back_snoc (accH_back h k (by omega)) h3 h5
theorem accH_no_back (h : (chkH ts f l).2 = 0) : NoBack l := by
  have := accH_back h l.length (Nat.le_refl _)
  rw [List.take_length] at this
  exact this
theorem accH_mem (h : (chkH ts f l).2 = 0) {a b : Int} (hx : (a, b) ∈ l) : (0 ≤ a ∧ a < (ts.length : Int)) ∧ (0 ≤ b ∧ b < (ts.length : Int)) ∧ psE (tcA ts a) (tcA ts b) = 0 := by
  obtain ⟨j, hj⟩ := List.mem_iff_getElem?.1 hx
  obtain ⟨h1, h2, -⟩ := th_good (accH h hj)
  obtain ⟨h3, h4, -⟩ := pr_good h1
  exact ⟨h3, h4, h2⟩
/-- In valid through services a chain's trips exist. -/
theorem accH_in (h : (chkH ts f l).2 = 0) {t : Int} (ht : 0 ≤ t ∧ t < (ts.length : Int)) {j : Nat} {x : Int} (hx : (chT l t)[j]? = some x) : 0 ≤ x ∧ x < (ts.length : Int) := by
  have H := ch_ok l t
  cases j with
  | zero =>
    rw [H.first] at hx
    rw [← Option.some.inj hx]
    exact ht
  | succ j =>
    obtain ⟨y, hy⟩ := at_lt (l := chT l t) (k := j) (by have := (List.getElem?_eq_some_iff.1 hx).1; omega)
    exact (accH_mem h (nx_mem (H.link j y x hy hx))).2.1
theorem accH_le (h : (chkH ts f l).2 = 0) {t : Int} (ht : 0 ≤ t ∧ t < (ts.length : Int)) : (chT l t).length ≤ ts.length := by
  have H := ch_ok l t
  have := nodup_lenG (chT l t) ((List.range ts.length).map fun k : Nat => (k : Int)) H.nod (fun x hx => by
    obtain ⟨j, hj⟩ := List.mem_iff_getElem?.1 hx
    have h1 := accH_in h ht hj
    exact List.mem_map.2 ⟨x.toNat, List.mem_range.2 (by omega), by omega⟩)
  rw [List.length_map, List.length_range] at this
  exact this
theorem accH_end (h : (chkH ts f l).2 = 0) {t x : Int} (hx : (chT l t)[(chT l t).length - 1]? = some x) : nxT x l = none := ch_ends (accH_no_back h) hx
theorem accH_pass (h : (chkH ts f l).2 = 0) {t : Int} {j : Nat} {x y : Int} (hx : (chT l t)[j]? = some x) (hy : (chT l t)[j + 1]? = some y) : psE (tcA ts x) (tcA ts y) = 0 := (accH_mem h (nx_mem ((ch_ok l t).link j x y hx hy))).2.2
end

/-! ### The first guaranteed change that is not valid -/
/-- The error of a guaranteed change behind the earlier ones. -/
def guE (ts : List Tc) (f : List Fq) (st : Int) (seen : List Gt) (x : Gt) : Int :=
  if ¬ (0 ≤ x.2.2 ∧ x.2.2 < st) then 9 else
  if prE ts.length f x.1 x.2.1 ≠ 0 then prE ts.length f x.1 x.2.1 else
  if (meT x.2.2 (tcA ts x.1).2 (tcA ts x.2.1).2).2.2 = false then 19 else if x ∈ seen then 6 else 0
section
variable {ts : List Tc} {f : List Fq} {st : Int} {seen : List Gt} {x : Gt}
theorem gu_stop (h : ¬ (0 ≤ x.2.2 ∧ x.2.2 < st)) : guE ts f st seen x = 9 := by unfold guE; rw [if_pos h]
theorem gu_pair (h1 : 0 ≤ x.2.2 ∧ x.2.2 < st) (h : prE ts.length f x.1 x.2.1 ≠ 0) : guE ts f st seen x = prE ts.length f x.1 x.2.1 := by
  unfold guE
  rw [if_neg (by omega), if_pos h]
theorem gu_ref (h : prE ts.length f x.1 x.2.1 = 9) : guE ts f st seen x = 9 := by
  by_cases h1 : 0 ≤ x.2.2 ∧ x.2.2 < st
  · rw [gu_pair h1 (by omega), h]
  · exact gu_stop h1
theorem gu_link (h1 : 0 ≤ x.2.2 ∧ x.2.2 < st) (h2 : prE ts.length f x.1 x.2.1 = 0) (h : (meT x.2.2 (tcA ts x.1).2 (tcA ts x.2.1).2).2.2 = false) : guE ts f st seen x = 19 := by
  unfold guE
  rw [if_neg (by omega), if_neg (by simp [h2]), if_pos h]
theorem gu_twice (h1 : 0 ≤ x.2.2 ∧ x.2.2 < st) (h2 : prE ts.length f x.1 x.2.1 = 0) (h3 : (meT x.2.2 (tcA ts x.1).2 (tcA ts x.2.1).2).2.2 = true) (h : x ∈ seen) : guE ts f st seen x = 6 := by
  unfold guE
  rw [if_neg (by omega), if_neg (by simp [h2]), if_neg (by simp [h3]), if_pos h]
theorem gu_ok (h1 : 0 ≤ x.2.2 ∧ x.2.2 < st) (h2 : prE ts.length f x.1 x.2.1 = 0) (h3 : (meT x.2.2 (tcA ts x.1).2 (tcA ts x.2.1).2).2.2 = true) (h : x ∉ seen) : guE ts f st seen x = 0 := by
  unfold guE
  rw [if_neg (by omega), if_neg (by simp [h2]), if_neg (by simp [h3]), if_neg h]
end
/-- What CheckGuarantees answers. -/
def chkU (ts : List Tc) (f : List Fq) (st : Int) (l : List Gt) : Int × Int := if 128 < l.length then (0, 5) else fbF (guE ts f st) idG [] 0 l
section
variable {ts : List Tc} {f : List Fq} {st : Int} {l : List Gt}
theorem chkU_many (h : 128 < l.length) : chkU ts f st l = (0, 5) := by unfold chkU; rw [if_pos h]
theorem chkU_start (h : ¬ 128 < l.length) : chkU ts f st l = fbF (guE ts f st) idG ((l.take 0).map idG) 0 (l.drop 0) := by unfold chkU; rw [if_neg h]; rfl
theorem accU_len (h : (chkU ts f st l).2 = 0) : l.length ≤ 128 := by
  rcases Nat.lt_or_ge 128 l.length with h1 | h1
  · rw [chkU_many h1] at h; cases h
  · exact h1
theorem chkU_take (h : (chkU ts f st l).2 = 0) (j : Nat) : (chkU ts f st (l.take j)).2 = 0 := by
  have hl := accU_len h
  unfold chkU at h ⊢
  rw [if_neg (by omega)] at h
  rw [if_neg (by rw [List.length_take]; omega)]
  exact fb_take l [] 0 j h
end
end Go.Proofs.Ytkballjadkhepaa
