/-
  A binary heap of numbered elements, as plain functions over lists: each operation leaves the same elements; for an order the first is the least one, the earliest of equals. Condition: none beyond each theorem's own hypotheses.
-/
namespace Go.Proofs.Ytahbgafjljfndaa
section
variable {α : Type}

/-- Exchange the elements i and j. -/
def swp {β : Type} (l : List β) (i j : Nat) : List β := match l[i]?, l[j]? with
  | some a, some b => (l.set i b).set j a
  | _, _ => l
theorem swp_len {β : Type} (l : List β) (i j : Nat) : (swp l i j).length = l.length := by
  unfold swp
  split <;> simp
theorem swp_eq {β : Type} {l : List β} {i j : Nat} {a b : β} (hi : l[i]? = some a) (hj : l[j]? = some b) : swp l i j = (l.set i b).set j a := by
  unfold swp
  rw [hi, hj]
theorem swp_perm {β : Type} (l : List β) (i j : Nat) : (swp l i j).Perm l := by
  unfold swp
  split
  · next a b hi hj =>
    obtain ⟨h1, h2⟩ := List.getElem?_eq_some_iff.1 hi
    obtain ⟨h3, h4⟩ := List.getElem?_eq_some_iff.1 hj
    subst h2 h4
    exact List.set_set_perm h1 h3
  · exact List.Perm.refl _
def tr (i j k : Nat) : Nat := if k = i then j else if k = j then i else k
theorem swp_at {β : Type} {l : List β} {i j : Nat} (hi : i < l.length) (hj : j < l.length) (k : Nat) : (swp l i j)[k]? = l[tr i j k]? := by
  rw [swp_eq (List.getElem?_eq_getElem hi) (List.getElem?_eq_getElem hj)]
  unfold tr
  rw [List.getElem?_set, List.getElem?_set]
  by_cases h1 : k = i
  · subst h1
    by_cases h2 : j = k
    · subst h2; simp [hj]
    · simp [h2, hi]
  · by_cases h2 : j = k
    · subst h2; simp [h1, hi, hj]
    · simp [h1, h2, Ne.symm h1, Ne.symm h2]

variable (less : α → α → Bool)
/-- a is less than b, or equivalent and numbered lower. -/
def bef (a b : α × Nat) : Bool := less a.1 b.1 || (decide (a.2 < b.2) && !less b.1 a.1)
def befAt (l : List (α × Nat)) (i j : Nat) : Bool := match l[i]?, l[j]? with
  | some a, some b => bef less a b
  | _, _ => false
theorem befAt_eq {l : List (α × Nat)} {i j : Nat} {a b : α × Nat} (hi : l[i]? = some a) (hj : l[j]? = some b) : befAt less l i j = bef less a b := by
  unfold befAt
  rw [hi, hj]
theorem befAt_lt {l : List (α × Nat)} {i j : Nat} (h : befAt less l i j = true) : i < l.length ∧ j < l.length := by
  unfold befAt at h
  split at h
  · next a b hi hj => exact ⟨(List.getElem?_eq_some_iff.1 hi).1, (List.getElem?_eq_some_iff.1 hj).1⟩
  · cases h
theorem befAt_swp {l : List (α × Nat)} {i j : Nat} (hi : i < l.length) (hj : j < l.length) (x y : Nat) : befAt less (swp l i j) x y = befAt less l (tr i j x) (tr i j y) := by
  unfold befAt
  rw [swp_at hi hj, swp_at hi hj]

/-- The element i moves towards the first one. -/
def raise (l : List (α × Nat)) (i : Nat) : List (α × Nat) := if _h : 0 < i ∧ befAt less l i ((i - 1) / 2) = true then raise (swp l i ((i - 1) / 2)) ((i - 1) / 2) else l
termination_by i
decreasing_by omega
def kid (l : List (α × Nat)) (i : Nat) : Nat := if 2 * i + 2 < l.length ∧ befAt less l (2 * i + 2) (2 * i + 1) = true then 2 * i + 2 else 2 * i + 1
theorem kid_gt (l : List (α × Nat)) (i : Nat) : i < kid less l i := by
  unfold kid
  split <;> omega
/-- The element i moves away from the first one. -/
def lower (l : List (α × Nat)) (i : Nat) : List (α × Nat) := if _h : kid less l i < l.length ∧ befAt less l (kid less l i) i = true then lower (swp l i (kid less l i)) (kid less l i) else l
termination_by l.length - i
decreasing_by
  rw [swp_len]
  have := kid_gt less l i
  omega
def pushH (l : List (α × Nat)) (n : Nat) (x : α) : List (α × Nat) := raise less (l ++ [(x, n)]) l.length
/-- What is left behind the first element. -/
def cutH (l : List (α × Nat)) : List (α × Nat) := ((swp l 0 (l.length - 1)).take (l.length - 1))
def popH (l : List (α × Nat)) : List (α × Nat) := lower less (cutH l) 0
theorem raise_perm (l : List (α × Nat)) (i : Nat) : (raise less l i).Perm l := by
  fun_induction raise less l i with
  | case1 l i h ih => exact ih.trans (swp_perm _ _ _)
  | case2 l i h => exact List.Perm.refl _
theorem lower_perm (l : List (α × Nat)) (i : Nat) : (lower less l i).Perm l := by
  fun_induction lower less l i with
  | case1 l i h ih => exact ih.trans (swp_perm _ _ _)
  | case2 l i h => exact List.Perm.refl _
theorem push_perm (l : List (α × Nat)) (n : Nat) (x : α) : (pushH less l n x).Perm (l ++ [(x, n)]) := raise_perm _ _ _
theorem push_len (l : List (α × Nat)) (n : Nat) (x : α) : (pushH less l n x).length = l.length + 1 := by rw [(push_perm less l n x).length_eq]; simp
theorem take_one {β : Type} (l : List β) (k : Nat) (x : β) (h : l[k]? = some x) : l.take (k + 1) = l.take k ++ [x] := by
  rw [List.take_add_one, h]; rfl
theorem cut_perm {β : Type} (l : List β) (a : β) (h : l[0]? = some a) : l.Perm (a :: (swp l 0 (l.length - 1)).take (l.length - 1)) := by
  have hl := (List.getElem?_eq_some_iff.1 h).1
  have h1 : (swp l 0 (l.length - 1)).Perm l := swp_perm _ _ _
  have h2 : (swp l 0 (l.length - 1))[l.length - 1]? = some a := by
    rw [swp_at hl (by omega)]
    unfold tr
    split
    · next h3 => rw [h3, h]
    · rw [if_pos rfl, h]
  have h3 := take_one (swp l 0 (l.length - 1)) (l.length - 1) a h2
  rw [Nat.sub_add_cancel hl, List.take_of_length_le (by rw [swp_len]; exact Nat.le_refl _)] at h3
  refine h1.symm.trans ?_
  generalize hq : (swp l 0 (l.length - 1)).take (l.length - 1) = q at h3 ⊢
  rw [h3]
  exact List.perm_append_comm
theorem cut_len (l : List (α × Nat)) : (cutH l).length = l.length - 1 := by
  unfold cutH
  rw [List.length_take, swp_len]
  omega
theorem pop_perm (l : List (α × Nat)) (a : α × Nat) (h : l[0]? = some a) : l.Perm (a :: popH less l) :=
  (cut_perm l a h).trans ((lower_perm less _ 0).symm.cons a)
theorem pop_len (l : List (α × Nat)) : (popH less l).length = l.length - 1 := by
  unfold popH
  rw [(lower_perm less _ 0).length_eq, cut_len]
/-- All elements, as they leave. -/
def drainH (l : List (α × Nat)) : List α := match _h : l[0]? with
  | some a => a.1 :: drainH (popH less l)
  | none => []
termination_by l.length
decreasing_by
  rw [pop_len]
  have := (List.getElem?_eq_some_iff.1 _h).1
  omega
theorem drain_some {l : List (α × Nat)} {a : α × Nat} (h : l[0]? = some a) : drainH less l = a.1 :: drainH less (popH less l) := by
  conv => lhs; unfold drainH
  split
  · next b hb => rw [h] at hb; cases hb; rfl
  · next hb => rw [h] at hb; cases hb
theorem drain_nil : drainH less ([] : List (α × Nat)) = [] := by unfold drainH; rfl
theorem drain_perm (l : List (α × Nat)) : (drainH less l).Perm (l.map (·.1)) := by
  fun_induction drainH less l with
  | case1 l a h ih => exact (ih.cons a.1).trans ((pop_perm less l a h).map (fun x : α × Nat => x.1)).symm
  | case2 l h =>
    have : l = [] := by cases l with | nil => rfl | cons a r => simp at h
    rw [this]; exact List.Perm.refl _
/-- Elements pushed one by one, the first numbered n. -/
def pushAll (l : List (α × Nat)) (n : Nat) : List α → List (α × Nat)
  | [] => l
  | x :: r => pushAll (pushH less l n x) (n + 1) r
theorem pushAll_snoc (xs : List α) (x : α) : ∀ (l : List (α × Nat)) (n : Nat), pushAll less l n (xs ++ [x]) = pushH less (pushAll less l n xs) (n + xs.length) x := by
  induction xs with
  | nil => intro l n; rfl
  | cons y r ih =>
    intro l n
    show pushAll less (pushH less l n y) (n + 1) (r ++ [x]) = _
    rw [ih, show n + (y :: r).length = n + 1 + r.length by simp; omega]
    rfl
theorem pushAll_len (xs : List α) : ∀ (l : List (α × Nat)) (n : Nat), (pushAll less l n xs).length = l.length + xs.length := by
  induction xs with
  | nil => intro l n; rfl
  | cons y r ih =>
    intro l n
    show (pushAll less (pushH less l n y) (n + 1) r).length = _
    rw [ih, push_len]; simp; omega
/-- A list numbered from n. -/
def numb (n : Nat) : List α → List (α × Nat)
  | [] => []
  | x :: r => (x, n) :: numb (n + 1) r
theorem numb_map (xs : List α) : ∀ n, (numb n xs).map (·.1) = xs := by
  induction xs with
  | nil => intro n; rfl
  | cons x r ih => intro n; show x :: (numb (n + 1) r).map (·.1) = _; rw [ih]
theorem numb_len (xs : List α) : ∀ n, (numb n xs).length = xs.length := by
  intro n; have := congrArg List.length (numb_map xs n); simpa using this
theorem numb_snoc (xs : List α) (x : α) : ∀ n, numb n (xs ++ [x]) = numb n xs ++ [(x, n + xs.length)] := by
  induction xs with
  | nil => intro n; rfl
  | cons y r ih =>
    intro n
    show (y, n) :: numb (n + 1) (r ++ [x]) = (y, n) :: numb (n + 1) r ++ _
    rw [ih]; simp; omega
theorem pushAll_perm (xs : List α) : ∀ (l : List (α × Nat)) (n : Nat), (pushAll less l n xs).Perm (l ++ numb n xs) := by
  induction xs with
  | nil => intro l n; show l.Perm (l ++ []); rw [List.append_nil]
  | cons y r ih =>
    intro l n
    refine (ih _ _).trans ?_
    refine ((push_perm less l n y).append_right _).trans ?_
    rw [List.append_assoc]
    exact List.Perm.refl _
def sortH (xs : List α) : List α := drainH less (pushAll less [] 0 xs)
theorem sort_perm (xs : List α) : (sortH less xs).Perm xs := by
  unfold sortH
  refine (drain_perm less _).trans ?_
  have := ((pushAll_perm less xs [] 0).map (·.1))
  rwa [List.nil_append, numb_map] at this
theorem sort_len (xs : List α) : (sortH less xs).length = xs.length := (sort_perm less xs).length_eq

/-! ### For an order -/
/-- A strict weak order. -/
structure IsOrd : Prop where
  asym : ∀ a b, less a b = true → less b a = false
  ntr : ∀ a b c, less a b = false → less b c = false → less a c = false
variable {less}
theorem IsOrd.irr (o : IsOrd less) (a : α) : less a a = false := by
  cases h : less a a with
  | false => rfl
  | true => exact (o.asym a a h).symm.trans h |>.symm
/-- b does not come before a. -/
def nb (less : α → α → Bool) (a b : α × Nat) : Prop := bef less a b = false
theorem nb_iff {a b : α × Nat} : nb less a b ↔ less a.1 b.1 = false ∧ (b.2 ≤ a.2 ∨ less b.1 a.1 = true) := by
  unfold nb bef
  cases h1 : less a.1 b.1 <;> cases h2 : less b.1 a.1 <;> simp
theorem nb_trans (o : IsOrd less) {a b c : α × Nat} (h1 : nb less a b) (h2 : nb less b c) : nb less a c := by
  rw [nb_iff] at *
  obtain ⟨x1, x2⟩ := h1
  obtain ⟨y1, y2⟩ := h2
  refine ⟨o.ntr _ _ _ x1 y1, ?_⟩
  cases h : less c.1 a.1 with
  | true => exact .inr rfl
  | false =>
    rcases x2 with x2 | x2
    · rcases y2 with y2 | y2
      · exact .inl (Nat.le_trans y2 x2)
      · rw [o.ntr _ _ _ h x1] at y2; cases y2
    · rw [o.ntr _ _ _ y1 h] at x2; cases x2
theorem nb_of_bef (o : IsOrd less) {a b : α × Nat} (h : bef less a b = true) : nb less b a := by
  rw [nb_iff]
  unfold bef at h
  cases h1 : less a.1 b.1 with
  | true => exact ⟨o.asym _ _ h1, .inr rfl⟩
  | false =>
    rw [h1] at h
    simp at h
    exact ⟨h.2, .inl (by omega)⟩
theorem nb_refl (o : IsOrd less) (a : α × Nat) : nb less a a := by
  rw [nb_iff]
  exact ⟨o.irr _, .inl (Nat.le_refl _)⟩
theorem nb_same {a b : α × Nat} (h1 : nb less a b) (h2 : nb less b a) : a.2 = b.2 := by
  rw [nb_iff] at *
  rcases h1.2 with x | x
  · rcases h2.2 with y | y
    · omega
    · rw [h1.1] at y; cases y
  · rw [h2.1] at x; cases x
/-- The same, by indices. -/
def nbAt (less : α → α → Bool) (l : List (α × Nat)) (i j : Nat) : Prop := befAt less l i j = false
theorem nbAt_trans (o : IsOrd less) {l : List (α × Nat)} {i j k : Nat} (hj : j < l.length) (h1 : nbAt less l i j) (h2 : nbAt less l j k) : nbAt less l i k := by
  unfold nbAt befAt at *
  rw [List.getElem?_eq_getElem hj] at h1 h2
  split
  · next a c ha hc =>
    rw [ha] at h1
    rw [hc] at h2
    exact nb_trans o h1 h2
  · rfl
theorem nbAt_of (o : IsOrd less) {l : List (α × Nat)} {i j : Nat} (h : befAt less l i j = true) : nbAt less l j i := by
  unfold nbAt befAt at *
  split at h
  · next a b ha hb => rw [ha, hb]; exact nb_of_bef o h
  · cases h
theorem nbAt_refl (o : IsOrd less) (l : List (α × Nat)) (i : Nat) : nbAt less l i i := by
  unfold nbAt befAt
  split
  · next a b ha hb => rw [ha] at hb; cases hb; exact nb_refl o a
  · rfl
theorem nbAt_swp {l : List (α × Nat)} {i j : Nat} (hi : i < l.length) (hj : j < l.length) (x y : Nat) (h : nbAt less l (tr i j x) (tr i j y)) : nbAt less (swp l i j) x y := by
  unfold nbAt at *
  rw [befAt_swp less hi hj]
  exact h
/-- No element comes before its parent. -/
def Hp (less : α → α → Bool) (l : List (α × Nat)) : Prop := ∀ j, 0 < j → j < l.length → nbAt less l j ((j - 1) / 2)
/-- The same but for the element i against its parent. -/
def UpI (less : α → α → Bool) (l : List (α × Nat)) (i : Nat) : Prop := (∀ j, 0 < j → j < l.length → j ≠ i → nbAt less l j ((j - 1) / 2)) ∧ (∀ c, 0 < c → c < l.length → (c - 1) / 2 = i → 0 < i → nbAt less l c ((i - 1) / 2))
theorem raise_heap (o : IsOrd less) (l : List (α × Nat)) (i : Nat) (h : UpI less l i) : Hp less (raise less l i) := by
  fun_induction raise less l i with
  | case1 l i hc ih =>
    apply ih
    obtain ⟨h0, hb⟩ := hc
    obtain ⟨hi, hp⟩ := befAt_lt less hb
    obtain ⟨u1, u2⟩ := h
    have hr := nbAt_of o hb
    generalize hpe : (i - 1) / 2 = p at *
    have hne : p ≠ i := by omega
    refine ⟨fun j j0 jl jp => ?_, fun c c0 cl cp p0 => ?_⟩
    · rw [swp_len] at jl
      refine nbAt_swp hi hp _ _ ?_
      by_cases e1 : j = i
      · subst e1
        rw [hpe, show tr j p j = p by simp [tr], show tr j p p = j by simp [tr, hne]]
        exact hr
      · rw [show tr i p j = j by simp [tr, e1, jp]]
        by_cases e2 : (j - 1) / 2 = i
        · rw [e2, show tr i p i = p by simp [tr]]
          exact u2 j j0 jl e2 h0
        · by_cases e3 : (j - 1) / 2 = p
          · rw [e3, show tr i p p = i by simp [tr, hne]]
            have := u1 j j0 jl e1
            rw [e3] at this
            exact nbAt_trans o hp this hr
          · rw [show tr i p ((j - 1) / 2) = (j - 1) / 2 by simp [tr, e2, e3]]
            exact u1 j j0 jl e1
    · rw [swp_len] at cl
      refine nbAt_swp hi hp _ _ ?_
      rw [show tr i p ((p - 1) / 2) = (p - 1) / 2 by unfold tr; rw [if_neg (by omega), if_neg (by omega)]]
      have hpp := u1 p p0 hp hne
      by_cases e1 : c = i
      · rw [e1, show tr i p i = p by simp [tr]]
        exact hpp
      · rw [show tr i p c = c by unfold tr; rw [if_neg e1, if_neg (by omega)]]
        have := u1 c c0 cl e1
        rw [cp] at this
        exact nbAt_trans o hp this hpp
  | case2 l i hc =>
    intro j j0 jl
    by_cases e : j = i
    · subst e
      unfold nbAt
      cases hh : befAt less l j ((j - 1) / 2) with
      | false => rfl
      | true => exact absurd ⟨j0, hh⟩ hc
    · exact h.1 j j0 jl e
/-- The same but for the children of the element i. -/
def DnI (less : α → α → Bool) (l : List (α × Nat)) (i : Nat) : Prop := (∀ j, 0 < j → j < l.length → (j - 1) / 2 ≠ i → nbAt less l j ((j - 1) / 2)) ∧ (∀ c, 0 < c → c < l.length → (c - 1) / 2 = i → 0 < i → nbAt less l c ((i - 1) / 2))
theorem kid_best (o : IsOrd less) (l : List (α × Nat)) (i : Nat) (j : Nat) (j0 : 0 < j) (jl : j < l.length) (hj : (j - 1) / 2 = i) : nbAt less l j (kid less l i) ∧ kid less l i < l.length := by
  have h2 : j = 2 * i + 1 ∨ j = 2 * i + 2 := by omega
  unfold kid
  split
  · next h =>
    refine ⟨?_, h.1⟩
    rcases h2 with rfl | rfl
    · exact nbAt_of o h.2
    · exact nbAt_refl o _ _
  · next h =>
    refine ⟨?_, by omega⟩
    rcases h2 with rfl | rfl
    · exact nbAt_refl o _ _
    · unfold nbAt
      cases hh : befAt less l (2 * i + 2) (2 * i + 1) with
      | false => rfl
      | true => exact absurd ⟨jl, hh⟩ h
theorem kid_par (l : List (α × Nat)) (i : Nat) : (kid less l i - 1) / 2 = i := by
  unfold kid
  split <;> omega
theorem lower_heap (o : IsOrd less) (l : List (α × Nat)) (i : Nat) (h : DnI less l i) : Hp less (lower less l i) := by
  fun_induction lower less l i with
  | case1 l i hc ih =>
    apply ih
    obtain ⟨hk, hb⟩ := hc
    have hkb := kid_best o l i
    have hkp := kid_par (less := less) l i
    have hkg := kid_gt less l i
    obtain ⟨_, hi⟩ := befAt_lt less hb
    obtain ⟨u1, u2⟩ := h
    have hr := nbAt_of o hb
    generalize kid less l i = c at *
    have hne : c ≠ i := by omega
    refine ⟨fun j j0 jl jp => ?_, fun d d0 dl dp c0 => ?_⟩
    · rw [swp_len] at jl
      refine nbAt_swp hi hk _ _ ?_
      by_cases e1 : (j - 1) / 2 = i
      · rw [e1, show tr i c i = c by simp [tr]]
        by_cases e2 : j = c
        · rw [e2, show tr i c c = i by simp [tr, hne]]
          exact hr
        · rw [show tr i c j = j by unfold tr; rw [if_neg (by omega), if_neg e2]]
          exact (hkb j j0 jl e1).1
      · rw [show tr i c ((j - 1) / 2) = (j - 1) / 2 by unfold tr; rw [if_neg e1, if_neg jp]]
        by_cases e2 : j = i
        · rw [e2, show tr i c i = c by simp [tr]]
          exact u2 c (by omega) hk hkp (by omega)
        · by_cases e3 : j = c
          · omega
          · rw [show tr i c j = j by simp [tr, e2, e3]]
            exact u1 j j0 jl e1
    · rw [swp_len] at dl
      refine nbAt_swp hi hk _ _ ?_
      rw [hkp, show tr i c i = c by simp [tr], show tr i c d = d by unfold tr; rw [if_neg (by omega), if_neg (by omega)]]
      have := u1 d d0 dl (by omega)
      rw [dp] at this
      exact this
  | case2 l i hc =>
    intro j j0 jl
    by_cases e : (j - 1) / 2 = i
    · obtain ⟨h1, h2⟩ := kid_best o l i j j0 jl e
      rw [e]
      refine nbAt_trans o h2 h1 ?_
      unfold nbAt
      cases hh : befAt less l (kid less l i) i with
      | false => rfl
      | true => exact absurd ⟨h2, hh⟩ hc
    · exact h.1 j j0 jl e
theorem Hp.nil : Hp less ([] : List (α × Nat)) := fun j _ h => by simp at h
theorem push_heap (o : IsOrd less) {l : List (α × Nat)} (h : Hp less l) (n : Nat) (x : α) : Hp less (pushH less l n x) := by
  refine raise_heap o _ _ ⟨fun j j0 jl jn => ?_, fun c c0 cl cp _ => ?_⟩
  · simp at jl
    have := h j j0 (by omega)
    unfold nbAt befAt at *
    rw [List.getElem?_append_left (by omega), List.getElem?_append_left (by omega)]
    exact this
  · simp at cl
    omega
theorem pop_heap (o : IsOrd less) {l : List (α × Nat)} (h : Hp less l) : Hp less (popH less l) := by
  refine lower_heap o _ _ ⟨fun j j0 jl jn => ?_, fun c _ _ _ h0 => absurd h0 (Nat.lt_irrefl _)⟩
  rw [cut_len] at jl
  have h1 := h j j0 (by omega)
  unfold nbAt befAt cutH at *
  rw [List.getElem?_take, if_pos jl, List.getElem?_take, if_pos (by omega), swp_at (by omega) (by omega), swp_at (by omega) (by omega)]
  unfold tr
  rw [if_neg (by omega), if_neg (by omega), if_neg (by omega), if_neg (by omega)]
  exact h1
theorem pushAll_heap (o : IsOrd less) (xs : List α) : ∀ (l : List (α × Nat)) (n : Nat), Hp less l → Hp less (pushAll less l n xs) := by
  induction xs with
  | nil => intro l n h; exact h
  | cons y r ih => intro l n h; exact ih _ _ (push_heap o h n y)
theorem root_best (o : IsOrd less) {l : List (α × Nat)} (h : Hp less l) : ∀ (j : Nat), j < l.length → nbAt less l j 0 := by
  intro j
  induction j using Nat.strongRecOn with
  | ind j ih =>
    intro jl
    by_cases j0 : j = 0
    · subst j0; exact nbAt_refl o _ _
    · exact nbAt_trans o (by omega) (h j (by omega) jl) (ih _ (by omega) (by omega))
theorem root_least (o : IsOrd less) {l : List (α × Nat)} (h : Hp less l) {a : α × Nat} (ha : l[0]? = some a) : ∀ x ∈ l, nb less x a := by
  intro x hx
  obtain ⟨j, hj⟩ := List.mem_iff_getElem?.1 hx
  have := root_best o h j (List.getElem?_eq_some_iff.1 hj).1
  unfold nbAt at this
  rwa [befAt_eq less hj ha] at this

/-! ### The first of a list -/
/-- The index of the first of the least elements. -/
structure IsFirst (less : α → α → Bool) (r : List α) (i : Nat) : Prop where
  lt : i < r.length
  low : ∀ (j : Nat) x y, r[j]? = some x → r[i]? = some y → less x y = false
  new : ∀ (j : Nat) x y, j < i → r[j]? = some x → r[i]? = some y → less y x = true
/-- Numbers ascend. -/
def Inc (R : List (α × Nat)) : Prop := R.Pairwise fun a b => a.2 < b.2
theorem Inc.uniq {R : List (α × Nat)} (h : Inc R) {a b : α × Nat} (ha : a ∈ R) (hb : b ∈ R) (e : a.2 = b.2) : a = b := by
  obtain ⟨i, hi⟩ := List.mem_iff_getElem?.1 ha
  obtain ⟨j, hj⟩ := List.mem_iff_getElem?.1 hb
  obtain ⟨i1, i2⟩ := List.getElem?_eq_some_iff.1 hi
  obtain ⟨j1, j2⟩ := List.getElem?_eq_some_iff.1 hj
  rcases Nat.lt_trichotomy i j with x | x | x
  · have := (List.pairwise_iff_getElem.1 h) i j i1 j1 x
    rw [i2, j2] at this; omega
  · subst x; rw [hi] at hj; exact Option.some.inj hj
  · have := (List.pairwise_iff_getElem.1 h) j i j1 i1 x
    rw [i2, j2] at this; omega
theorem first_best {R : List (α × Nat)} (hR : Inc R) {i : Nat} (hf : IsFirst less (R.map (·.1)) i) {b : α × Nat} (hb : R[i]? = some b) : ∀ x ∈ R, nb less x b := by
  intro x hx
  obtain ⟨j, hj⟩ := List.mem_iff_getElem?.1 hx
  have m1 : (R.map (·.1))[j]? = some x.1 := by rw [List.getElem?_map, hj]; rfl
  have m2 : (R.map (·.1))[i]? = some b.1 := by rw [List.getElem?_map, hb]; rfl
  rw [nb_iff]
  refine ⟨hf.low j _ _ m1 m2, ?_⟩
  by_cases hlt : j < i
  · exact .inr (hf.new j _ _ hlt m1 m2)
  · refine .inl ?_
    obtain ⟨i1, i2⟩ := List.getElem?_eq_some_iff.1 hb
    obtain ⟨j1, j2⟩ := List.getElem?_eq_some_iff.1 hj
    by_cases e : i = j
    · subst e; rw [hb] at hj; cases hj; exact Nat.le_refl _
    · have := (List.pairwise_iff_getElem.1 hR) i j i1 j1 (by omega)
      rw [i2, j2] at this; omega
theorem erase_perm {β : Type} {l : List β} {i : Nat} {a : β} (h : l[i]? = some a) : l.Perm (a :: l.eraseIdx i) := by
  induction l generalizing i with
  | nil => simp at h
  | cons b r ih =>
    cases i with
    | zero => simp at h; subst h; exact List.Perm.refl _
    | succ i =>
      simp at h
      exact ((ih h).cons b).trans (List.Perm.swap a b _)
/-- The first of the heap is the first of the list. -/
theorem root_first (o : IsOrd less) {l R : List (α × Nat)} (h : Hp less l) (hp : l.Perm R) (hR : Inc R) {i : Nat} (hf : IsFirst less (R.map (·.1)) i) {a : α × Nat} (ha : l[0]? = some a) : R[i]? = some a ∧ (popH less l).Perm (R.eraseIdx i) := by
  have hi : i < R.length := by have := hf.lt; rwa [List.length_map] at this
  have hb : R[i]? = some R[i] := List.getElem?_eq_getElem hi
  have hbm : R[i] ∈ R := List.getElem_mem hi
  have ham : a ∈ R := hp.subset (List.mem_iff_getElem?.2 ⟨0, ha⟩)
  have n1 := first_best hR hf hb a ham
  have n2 := root_least o h ha R[i] (hp.symm.subset hbm)
  have e := hR.uniq ham hbm (nb_same n1 n2)
  refine ⟨by rw [hb, e], ?_⟩
  have p1 := (pop_perm less l a ha).symm.trans hp
  have p2 : R.Perm (R[i] :: R.eraseIdx i) := erase_perm hb
  rw [e] at p1
  exact (p1.trans p2).cons_inv
theorem Inc.erase {R : List (α × Nat)} (h : Inc R) (i : Nat) : Inc (R.eraseIdx i) := List.Pairwise.sublist (List.eraseIdx_sublist R i) h
theorem Inc.snoc {R : List (α × Nat)} (h : Inc R) (x : α) (n : Nat) (hn : ∀ a ∈ R, a.2 < n) : Inc (R ++ [(x, n)]) := by
  unfold Inc
  rw [List.pairwise_append]
  exact ⟨h, by simp, fun a ha b hb => by simp at hb; subst hb; exact hn a ha⟩
theorem numb_le (xs : List α) : ∀ n, ∀ a ∈ numb n xs, n ≤ a.2 ∧ a.2 < n + xs.length := by
  induction xs with
  | nil => intro n a h; cases h
  | cons x r ih =>
    intro n a h
    rcases List.mem_cons.1 h with rfl | h
    · simp
    · have := ih (n + 1) a h
      simp; omega
theorem numb_inc (xs : List α) : ∀ n, Inc (numb n xs) := by
  induction xs with
  | nil => intro n; exact List.Pairwise.nil
  | cons x r ih =>
    intro n
    exact List.Pairwise.cons (fun a ha => by have := (numb_le r (n + 1) a ha).1; show n < a.2; omega) (ih (n + 1))
theorem map_erase {β γ : Type} (f : β → γ) (l : List β) (i : Nat) : (l.eraseIdx i).map f = (l.map f).eraseIdx i := by
  induction l generalizing i with
  | nil => rfl
  | cons a r ih =>
    cases i with
    | zero => rfl
    | succ i => simp [ih]
/-- What leaves a heap does not decrease; of equivalent ones the earlier comes first. -/
theorem drain_sorted (o : IsOrd less) (l : List (α × Nat)) (h : Hp less l) : ∃ D : List (α × Nat), drainH less l = D.map (·.1) ∧ D.Perm l ∧ D.Pairwise fun a b => nb less b a := by
  fun_induction drainH less l with
  | case1 l a ha ih =>
    obtain ⟨D, h1, h2, h3⟩ := ih (pop_heap o h)
    have hp := pop_perm less l a ha
    refine ⟨a :: D, by rw [h1]; rfl, (h2.cons a).trans hp.symm, List.Pairwise.cons (fun b hb => ?_) h3⟩
    exact root_least o h ha b (hp.symm.subset (List.mem_cons_of_mem _ (h2.subset hb)))
  | case2 l hn =>
    have : l = [] := by cases l with | nil => rfl | cons a r => simp at hn
    subst this
    exact ⟨[], rfl, List.Perm.refl _, List.Pairwise.nil⟩
end
end Go.Proofs.Ytahbgafjljfndaa
