/-
  Plain facts about walks in a graph with lengths: the least cost (128 times the length, plus the number of edges), rounds of relaxation that find it, the distance in it: no program. Condition: none beyond each theorem's own hypotheses.
-/
import Derived.Test.YtahbgafjljfndaaDigits
namespace Go.Proofs.Ytahbgafjljfndaa
open Go

/-- An edge: from, to, length. -/
abbrev Ed := Nat × Nat × Nat
/-- A walk of k edges from a to b, of cost c: each edge costs M times its length, and one. -/
def Wk (M : Nat) (l : List Ed) (b : Nat) : Nat → Nat → Nat → Prop
  | 0, a, c => a = b ∧ c = 0
  | k + 1, a, c => ∃ m w c', (a, m, w) ∈ l ∧ Wk M l b k m c' ∧ c = c' + w * M + 1
theorem Wk.nil (M : Nat) (l : List Ed) (b : Nat) : Wk M l b 0 b 0 := ⟨rfl, rfl⟩
theorem Wk.cons {M : Nat} {l : List Ed} {b k a m w c : Nat} (h : (a, m, w) ∈ l) (hw : Wk M l b k m c) : Wk M l b (k + 1) a (c + w * M + 1) := ⟨m, w, c, h, hw, rfl⟩
/-- The cost tells the number of the edges and the length. -/
theorem Wk.cost {M : Nat} {l : List Ed} {b : Nat} : ∀ {k a c : Nat}, Wk M l b k a c → ∃ W, c = M * W + k
  | 0, _, _, ⟨_, hc⟩ => ⟨0, by omega⟩
  | k + 1, a, c, ⟨m, w, c', _, hw, hc⟩ => by
    obtain ⟨W, hW⟩ := hw.cost
    exact ⟨W + w, by rw [Nat.mul_add, Nat.mul_comm M w]; omega⟩
theorem Wk.app {M : Nat} {l : List Ed} {b x : Nat} : ∀ {k a c : Nat} {k' c' : Nat}, Wk M l x k a c → Wk M l b k' x c' → Wk M l b (k + k') a (c + c')
  | 0, a, c, k', c', ⟨ha, hc⟩, h => by
    subst ha hc
    rw [Nat.zero_add, Nat.zero_add]
    exact h
  | k + 1, a, c, k', c', ⟨m, w, d, he, hw, hc⟩, h => by
    have := Wk.cons he (hw.app h)
    rw [show k + 1 + k' = k + k' + 1 by omega, show c + c' = d + c' + w * M + 1 by omega]
    exact this
/-- The ends of the edges are below n. -/
def Inn (l : List Ed) (n : Nat) : Prop := ∀ e ∈ l, e.1 < n ∧ e.2.1 < n
/-- The least cost of a walk from a to b. -/
def Mn (M : Nat) (l : List Ed) (b a c : Nat) : Prop := (∃ k, Wk M l b k a c) ∧ ∀ k c', Wk M l b k a c' → c ≤ c'
theorem Mn.uniq {M : Nat} {l : List Ed} {b a c c' : Nat} (h : Mn M l b a c) (h' : Mn M l b a c') : c = c' := by
  obtain ⟨k, hk⟩ := h.1
  obtain ⟨k', hk'⟩ := h'.1
  have := h.2 _ _ hk'
  have := h'.2 _ _ hk
  omega
theorem least_of {p : Nat → Prop} : ∀ c, p c → ∃ m, p m ∧ ∀ c', p c' → m ≤ c' := by
  intro c
  induction c using Nat.strongRecOn with
  | _ c ih =>
    intro hc
    rcases Classical.em (∃ d, d < c ∧ p d) with ⟨d, hd, hp⟩ | hno
    · exact ih d hd hp
    · refine ⟨c, hc, fun c' hc' => ?_⟩
      rcases Nat.lt_or_ge c' c with h | h
      · exact absurd ⟨c', h, hc'⟩ hno
      · exact h
theorem Mn.exists {M : Nat} {l : List Ed} {b k a c : Nat} (h : Wk M l b k a c) : ∃ m, Mn M l b a m := by
  obtain ⟨m, hm, hl⟩ := least_of (p := fun c => ∃ k, Wk M l b k a c) c ⟨k, h⟩
  exact ⟨m, hm, fun k c' hk => hl c' ⟨k, hk⟩⟩
/-- What follows the first edge of a least walk is least. -/
theorem Mn.tail {M : Nat} {l : List Ed} {b a m w c k : Nat} (he : (a, m, w) ∈ l) (hw : Wk M l b k m c) (h : Mn M l b a (c + w * M + 1)) : Mn M l b m c := by
  refine ⟨⟨k, hw⟩, fun k' c' hk' => ?_⟩
  have := h.2 _ _ (Wk.cons he hk')
  omega

/-! ### A least walk has fewer edges than there are nodes -/
theorem filter_mono_len {p q : Nat → Bool} : ∀ l : List Nat, (∀ x, p x = true → q x = true) → (l.filter p).length ≤ (l.filter q).length
  | [], _ => Nat.le_refl _
  | x :: l, h => by
    have ih := filter_mono_len l h
    by_cases hp : p x = true
    · rw [List.filter_cons_of_pos hp, List.filter_cons_of_pos (h x hp), List.length_cons, List.length_cons]
      omega
    · rw [List.filter_cons_of_neg hp]
      by_cases hq : q x = true
      · rw [List.filter_cons_of_pos hq, List.length_cons]; omega
      · rw [List.filter_cons_of_neg hq]; exact ih
theorem filter_more {p q : Nat → Bool} {a : Nat} (ha : p a = false) (hq : q a = true) (h : ∀ x, p x = true → q x = true) : ∀ l : List Nat, a ∈ l → (l.filter p).length + 1 ≤ (l.filter q).length
  | [], hm => by cases hm
  | x :: l, hm => by
    by_cases hx : x = a
    · subst hx
      rw [List.filter_cons_of_neg (by rw [ha]; decide), List.filter_cons_of_pos hq, List.length_cons]
      have := filter_mono_len l h
      omega
    · have hm' : a ∈ l := by
        rcases List.mem_cons.1 hm with e | e
        · exact absurd e.symm hx
        · exact e
      have ih := filter_more ha hq h l hm'
      by_cases hp : p x = true
      · rw [List.filter_cons_of_pos hp, List.filter_cons_of_pos (h x hp), List.length_cons, List.length_cons]
        omega
      · rw [List.filter_cons_of_neg hp]
        by_cases hq' : q x = true
        · rw [List.filter_cons_of_pos hq', List.length_cons]; omega
        · rw [List.filter_cons_of_neg hq']; exact ih
/-- The node's least cost is at most c. -/
noncomputable def isNear (M : Nat) (l : List Ed) (b c i : Nat) : Bool := @decide (∃ m, Mn M l b i m ∧ m ≤ c) (Classical.propDecidable _)
theorem isNear_iff {M : Nat} {l : List Ed} {b c i : Nat} : isNear M l b c i = true ↔ ∃ m, Mn M l b i m ∧ m ≤ c := by
  unfold isNear
  exact @decide_eq_true_iff _ (Classical.propDecidable _)
noncomputable def near (M : Nat) (l : List Ed) (n b c : Nat) : Nat := ((List.range n).filter fun i => isNear M l b c i).length
theorem least_short {M : Nat} {l : List Ed} {n b : Nat} (hl : Inn l n) (hb : b < n) : ∀ {k a c : Nat}, Wk M l b k a c → Mn M l b a c → k + 1 ≤ near M l n b c
  | 0, a, c, ⟨ha, hc⟩, h => by
    subst ha hc
    unfold near
    have hm : a ∈ (List.range n).filter fun i => isNear M l a 0 i := by
      rw [List.mem_filter]
      exact ⟨List.mem_range.2 hb, isNear_iff.2 ⟨0, h, Nat.le_refl _⟩⟩
    exact List.length_pos_of_mem hm
  | k + 1, a, c, ⟨m, w, c', he, hw, hc⟩, h => by
    subst hc
    have ih := least_short hl hb hw (Mn.tail he hw h)
    refine Nat.le_trans (Nat.add_le_add_right ih 1) ?_
    unfold near
    refine filter_more (a := a) ?_ ?_ ?_ _ (List.mem_range.2 (hl _ he).1)
    · cases hn : isNear M l b c' a with
      | false => rfl
      | true =>
        obtain ⟨x, hx, hle⟩ := isNear_iff.1 hn
        have := hx.uniq h
        omega
    · exact isNear_iff.2 ⟨_, h, Nat.le_refl _⟩
    · intro x hx
      obtain ⟨y, hy, hle⟩ := isNear_iff.1 hx
      exact isNear_iff.2 ⟨y, hy, by omega⟩
theorem near_le (M : Nat) (l : List Ed) (n b c : Nat) : near M l n b c ≤ n := by
  unfold near
  refine Nat.le_trans (List.length_filter_le _ _) ?_
  rw [List.length_range]
  exact Nat.le_refl _
theorem least_edges {M : Nat} {l : List Ed} {n b k a c : Nat} (hl : Inn l n) (hb : b < n) (hw : Wk M l b k a c) (h : Mn M l b a c) : k < n := by
  have := least_short hl hb hw h
  have := near_le M l n b c
  omega

/-! ### Rounds of relaxation -/
/-- One edge. -/
def relax (d : List Int) (e : Ed) : List Int :=
  if d.getD e.2.1 (-1) < 0 then d else if d.getD e.1 (-1) < 0 ∨ d.getD e.2.1 (-1) + (e.2.2 : Int) * 128 + 1 < d.getD e.1 (-1) then d.set e.1 (d.getD e.2.1 (-1) + (e.2.2 : Int) * 128 + 1) else d
/-- All edges, in order. -/
def relaxL (l : List Ed) (d : List Int) : List Int := l.foldl relax d
def relaxN (l : List Ed) : Nat → List Int → List Int
  | 0, d => d
  | k + 1, d => relaxN l k (relaxL l d)
def start (n b : Nat) : List Int := (List.replicate n (-1)).set b 0
def costL (n : Nat) (l : List Ed) (b : Nat) : List Int := relaxN l n (start n b)
theorem getD_set {d : List Int} {i j : Nat} {x y : Int} : (d.set i x).getD j y = if i = j ∧ i < d.length then x else d.getD j y := by
  rw [List.getD_eq_getElem?_getD, List.getElem?_set, List.getD_eq_getElem?_getD]
  by_cases h : i = j
  · subst h
    by_cases hi : i < d.length
    · simp [hi]
    · simp [hi]
  · simp [h]
theorem relax_length (d : List Int) (e : Ed) : (relax d e).length = d.length := by
  unfold relax
  split
  · rfl
  · split
    · rw [List.length_set]
    · rfl
theorem relaxL_length : ∀ (l : List Ed) (d : List Int), (relaxL l d).length = d.length
  | [], _ => rfl
  | e :: l, d => by
    show (relaxL l (relax d e)).length = _
    rw [relaxL_length l, relax_length]
theorem relaxN_length (l : List Ed) : ∀ (k : Nat) (d : List Int), (relaxN l k d).length = d.length
  | 0, _ => rfl
  | k + 1, d => by
    show (relaxN l k (relaxL l d)).length = _
    rw [relaxN_length l k, relaxL_length]
/-- Each entry is -1 or the cost of a walk. -/
def Snd (L : List Ed) (b : Nat) (d : List Int) : Prop := ∀ i, (d.getD i (-1) = -1) ∨ ∃ k c : Nat, d.getD i (-1) = (c : Int) ∧ Wk 128 L b k i c
theorem snd_relax {L : List Ed} {b : Nat} {d : List Int} {e : Ed} (h : Snd L b d) (he : e ∈ L) : Snd L b (relax d e) := by
  unfold relax
  split
  · exact h
  · next h1 =>
    split
    · intro i
      rw [getD_set]
      split
      · next h2 =>
        obtain ⟨rfl, -⟩ := h2
        rcases h e.2.1 with hm | ⟨k, c, hc, hw⟩
        · omega
        · refine Or.inr ⟨k + 1, c + e.2.2 * 128 + 1, by rw [hc]; omega, Wk.cons (show (e.1, e.2.1, e.2.2) ∈ L from he) hw⟩
      · exact h i
    · exact h
theorem snd_relaxL {L : List Ed} {b : Nat} : ∀ {l : List Ed} {d : List Int}, Snd L b d → (∀ e ∈ l, e ∈ L) → Snd L b (relaxL l d)
  | [], _, h, _ => h
  | e :: l, d, h, hl => by
    show Snd L b (relaxL l (relax d e))
    exact snd_relaxL (snd_relax h (hl e (by simp))) fun x hx => hl x (List.mem_cons_of_mem _ hx)
theorem snd_relaxN {L : List Ed} {b : Nat} : ∀ {k : Nat} {d : List Int}, Snd L b d → Snd L b (relaxN L k d)
  | 0, _, h => h
  | k + 1, d, h => by
    show Snd L b (relaxN L k (relaxL L d))
    exact snd_relaxN (snd_relaxL h fun _ hx => hx)
theorem snd_start (L : List Ed) (n b : Nat) : Snd L b (start n b) := by
  intro i
  unfold start
  rw [getD_set]
  split
  · next h =>
    obtain ⟨rfl, -⟩ := h
    exact Or.inr ⟨0, 0, rfl, Wk.nil _ _ _⟩
  · left
    rw [List.getD_eq_getElem?_getD, List.getElem?_replicate]
    split <;> rfl
/-- At most c. -/
def Le (d : List Int) (i c : Nat) : Prop := 0 ≤ d.getD i (-1) ∧ d.getD i (-1) ≤ (c : Int)
theorem le_relax {d : List Int} {e : Ed} {i c : Nat} (h : Le d i c) : Le (relax d e) i c := by
  obtain ⟨h0, h1⟩ := h
  unfold relax
  split
  · exact ⟨h0, h1⟩
  · next h2 =>
    split
    · next h3 =>
      unfold Le
      rw [getD_set]
      split
      · next h4 =>
        obtain ⟨rfl, -⟩ := h4
        omega
      · exact ⟨h0, h1⟩
    · exact ⟨h0, h1⟩
theorem le_relaxL {i c : Nat} : ∀ {l : List Ed} {d : List Int}, Le d i c → Le (relaxL l d) i c
  | [], _, h => h
  | e :: l, d, h => by
    show Le (relaxL l (relax d e)) i c
    exact le_relaxL (le_relax h)
theorem le_relaxN {L : List Ed} {i c : Nat} : ∀ {k : Nat} {d : List Int}, Le d i c → Le (relaxN L k d) i c
  | 0, _, h => h
  | k + 1, d, h => by
    show Le (relaxN L k (relaxL L d)) i c
    exact le_relaxN (le_relaxL h)
theorem relax_hits {d : List Int} {a m w c : Nat} (ha : a < d.length) (h : Le d m c) : Le (relax d (a, m, w)) a (c + w * 128 + 1) := by
  obtain ⟨h0, h1⟩ := h
  unfold relax
  simp only
  rw [if_neg (by omega)]
  split
  · unfold Le
    rw [getD_set, if_pos ⟨rfl, ha⟩]
    omega
  · next h3 => exact ⟨by omega, by omega⟩
theorem relaxL_hits {a m w c : Nat} : ∀ {l : List Ed} {d : List Int}, (a, m, w) ∈ l → a < d.length → Le d m c → Le (relaxL l d) a (c + w * 128 + 1)
  | [], _, he, _, _ => by cases he
  | e :: l, d, he, ha, h => by
    show Le (relaxL l (relax d e)) a _
    rcases List.mem_cons.1 he with rfl | he
    · exact le_relaxL (relax_hits ha h)
    · exact relaxL_hits he (by rw [relax_length]; exact ha) (le_relax h)
/-- After k rounds all walks of at most k edges count. -/
theorem relaxN_done {L : List Ed} {n b : Nat} (hl : Inn L n) : ∀ {k : Nat} {d : List Int}, d.length = n → Le d b 0 → ∀ {j i c : Nat}, j ≤ k → Wk 128 L b j i c → Le (relaxN L k d) i c := by
  -- told of the rounds behind: a round, then k rounds
  have key : ∀ (k : Nat) (d : List Int), d.length = n → ∀ r, (∀ {j i c : Nat}, j ≤ r → Wk 128 L b j i c → Le d i c) → ∀ {j i c : Nat}, j ≤ r + k → Wk 128 L b j i c → Le (relaxN L k d) i c := by
    intro k
    induction k with
    | zero => intro d _ r h j i c hj hw; exact h hj hw
    | succ k ih =>
      intro d hd r h j i c hj hw
      refine ih (relaxL L d) (by rw [relaxL_length]; exact hd) (r + 1) ?_ (by omega) hw
      intro j i c hj hw
      rcases Nat.lt_or_ge r j with hr | hr
      · obtain rfl : j = r + 1 := by omega
        obtain ⟨m, w, c', he, hw', rfl⟩ := hw
        exact relaxL_hits he (by rw [hd]; exact (hl _ he).1) (h (Nat.le_refl _) hw')
      · exact le_relaxL (h hr hw)
  intro k d hd h0 j i c hj hw
  refine key k d hd 0 ?_ (by omega) hw
  intro j i c hj hw
  obtain rfl : j = 0 := by omega
  obtain ⟨rfl, rfl⟩ := hw
  exact h0
/-- The rounds find the least costs. -/
theorem costL_spec {L : List Ed} {n b : Nat} (hl : Inn L n) (hb : b < n) (i : Nat) : ((costL n L b).getD i (-1) = -1 ∧ ∀ k c, ¬ Wk 128 L b k i c) ∨ ∃ c : Nat, (costL n L b).getD i (-1) = (c : Int) ∧ Mn 128 L b i c := by
  have hs : Snd L b (costL n L b) := snd_relaxN (snd_start L n b)
  have hd : (start n b).length = n := by unfold start; rw [List.length_set, List.length_replicate]
  have h0 : Le (start n b) b 0 := by
    unfold Le start
    rw [getD_set, if_pos ⟨rfl, by rw [List.length_replicate]; exact hb⟩]
    exact ⟨Int.le_refl _, Int.le_refl _⟩
  have done : ∀ {k c : Nat}, Wk 128 L b k i c → Le (costL n L b) i c := by
    intro k c hw
    obtain ⟨m, hm⟩ := Mn.exists hw
    obtain ⟨k', hk'⟩ := hm.1
    have := least_edges hl hb hk' hm
    have h1 : Le (costL n L b) i m := relaxN_done hl hd h0 (Nat.le_of_lt this) hk'
    have h2 := hm.2 _ _ hw
    exact ⟨h1.1, by have := h1.2; omega⟩
  rcases hs i with hm | ⟨k, c, hc, hw⟩
  · refine Or.inl ⟨hm, fun k c hw => ?_⟩
    have := (done hw).1
    omega
  · refine Or.inr ⟨c, hc, ⟨k, hw⟩, fun k' c' hw' => ?_⟩
    have := (done hw').2
    omega
theorem costL_length (n : Nat) (L : List Ed) (b : Nat) : (costL n L b).length = n := by
  unfold costL start
  rw [relaxN_length, List.length_set, List.length_replicate]

/-! ### The distance -/
/-- A walk of k edges from a to b, of length W. -/
def Wl (l : List Ed) (b : Nat) : Nat → Nat → Nat → Prop
  | 0, a, W => a = b ∧ W = 0
  | k + 1, a, W => ∃ m w V, (a, m, w) ∈ l ∧ Wl l b k m V ∧ W = V + w
theorem Wl.wk {l : List Ed} {b : Nat} (M : Nat) : ∀ {k a W : Nat}, Wl l b k a W → Wk M l b k a (M * W + k)
  | 0, _, _, ⟨ha, hW⟩ => ⟨ha, by rw [hW]; rfl⟩
  | k + 1, a, W, ⟨m, w, V, he, hw, hW⟩ => by
    have := Wk.cons he (Wl.wk M hw)
    rw [hW, Nat.mul_add, Nat.mul_comm M w]
    rw [show M * V + w * M + (k + 1) = M * V + k + w * M + 1 by omega]
    exact this
theorem Wk.wl {M : Nat} {l : List Ed} {b : Nat} : ∀ {k a c : Nat}, Wk M l b k a c → ∃ W, Wl l b k a W ∧ c = M * W + k
  | 0, _, _, ⟨ha, hc⟩ => ⟨0, ⟨ha, rfl⟩, by rw [hc]; rfl⟩
  | k + 1, a, c, ⟨m, w, c', he, hw, hc⟩ => by
    obtain ⟨V, hV, hc'⟩ := hw.wl
    exact ⟨V + w, ⟨m, w, V, he, hV, rfl⟩, by rw [hc, hc', Nat.mul_add, Nat.mul_comm M w]; omega⟩
theorem Wl.app {l : List Ed} {b x : Nat} : ∀ {k a W k' W' : Nat}, Wl l x k a W → Wl l b k' x W' → Wl l b (k + k') a (W + W')
  | 0, a, W, k', W', ⟨ha, hW⟩, h => by
    subst ha hW
    rw [Nat.zero_add, Nat.zero_add]
    exact h
  | k + 1, a, W, k', W', ⟨m, w, V, he, hw, hW⟩, h => by
    rw [show k + 1 + k' = k + k' + 1 by omega]
    exact ⟨m, w, V + W', he, hw.app h, by omega⟩
/-- The length of a shortest path from a to b. -/
def Dist (l : List Ed) (b a W : Nat) : Prop := (∃ k, Wl l b k a W) ∧ ∀ k V, Wl l b k a V → W ≤ V
theorem Dist.uniq {l : List Ed} {b a W V : Nat} (h : Dist l b a W) (h' : Dist l b a V) : W = V := by
  obtain ⟨k, hk⟩ := h.1
  obtain ⟨k', hk'⟩ := h'.1
  have := h.2 _ _ hk'
  have := h'.2 _ _ hk
  omega
theorem Dist.exists {l : List Ed} {b k a V : Nat} (h : Wl l b k a V) : ∃ W, Dist l b a W := by
  obtain ⟨m, hm, hl⟩ := least_of (p := fun c => ∃ k, Wl l b k a c) V ⟨k, h⟩
  exact ⟨m, hm, fun k c' hk => hl c' ⟨k, hk⟩⟩
/-- A least cost tells the distance, and the fewest edges of a shortest path. -/
theorem Mn.dist {l : List Ed} {n b a c : Nat} (hl : Inn l n) (hb : b < n) (hn : n ≤ 128) (h : Mn 128 l b a c) : Dist l b a (c / 128) ∧ (∃ k, k = c % 128 ∧ k < n ∧ Wl l b k a (c / 128)) ∧ ∀ k, Wl l b k a (c / 128) → c % 128 ≤ k := by
  obtain ⟨k0, hk0⟩ := h.1
  have hlt := least_edges hl hb hk0 h
  obtain ⟨W0, hW0, hc⟩ := hk0.wl
  have e1 : c / 128 = W0 := by omega
  have e2 : c % 128 = k0 := by omega
  rw [e1, e2]
  refine ⟨⟨⟨k0, hW0⟩, fun k V hV => ?_⟩, ⟨k0, rfl, hlt, hW0⟩, fun k hk => ?_⟩
  · -- under a factor that outweighs the walk's own edges
    obtain ⟨c2, hc2⟩ := Mn.exists (hV.wk (128 + k))
    obtain ⟨k1, hk1⟩ := hc2.1
    have hlt1 := least_edges hl hb hk1 hc2
    obtain ⟨W1, hW1, hc1⟩ := hk1.wl
    have h1 := hc2.2 _ _ (hV.wk (128 + k))
    have h2 := h.2 _ _ (hW1.wk 128)
    have h3 : W0 ≤ W1 := by omega
    rcases Nat.lt_or_ge V W1 with hlt2 | hge
    · have h4 : (128 + k) * (V + 1) ≤ (128 + k) * W1 := Nat.mul_le_mul_left _ hlt2
      rw [Nat.mul_add, Nat.mul_one] at h4
      omega
    · omega
  · have := h.2 _ _ (hk.wk 128)
    omega
/-- Distances satisfy the triangle inequality; no edge is shorter than the distance of its ends; a node's distance to itself is 0. -/
theorem Dist.tri {l : List Ed} {a b c U V W : Nat} (h1 : Dist l b a U) (h2 : Dist l c b V) (h3 : Dist l c a W) : W ≤ U + V := by
  obtain ⟨k, hk⟩ := h1.1
  obtain ⟨k', hk'⟩ := h2.1
  exact h3.2 _ _ (hk.app hk')
theorem Dist.edge {l : List Ed} {a b w W : Nat} (he : (a, b, w) ∈ l) (h : Dist l b a W) : W ≤ w := h.2 1 w ⟨b, w, 0, he, ⟨rfl, rfl⟩, (Nat.zero_add _).symm⟩
theorem Dist.self (l : List Ed) (a : Nat) : Dist l a a 0 := ⟨⟨0, rfl, rfl⟩, fun _ _ _ => Nat.zero_le _⟩

/-! ### The edges turned -/
def turnE (e : Ed) : Ed := (e.2.1, e.1, e.2.2)
def turnL (l : List Ed) : List Ed := l.map turnE
theorem turn_turn (l : List Ed) : turnL (turnL l) = l := by
  unfold turnL
  rw [List.map_map]
  exact (List.map_congr_left (fun x _ => rfl)).trans (List.map_id l)
theorem mem_turn {l : List Ed} {a b w : Nat} (h : (a, b, w) ∈ l) : (b, a, w) ∈ turnL l := List.mem_map.2 ⟨_, h, rfl⟩
theorem Wl.snoc {l : List Ed} {b x w : Nat} {k a W : Nat} (h : Wl l x k a W) (he : (x, b, w) ∈ l) : Wl l b (k + 1) a (W + w) := h.app ⟨b, w, 0, he, ⟨rfl, rfl⟩, (Nat.zero_add _).symm⟩
theorem Wl.turn {l : List Ed} {b : Nat} : ∀ {k a W : Nat}, Wl l b k a W → Wl (turnL l) a k b W
  | 0, _, _, ⟨ha, hW⟩ => ⟨ha.symm, hW⟩
  | k + 1, a, W, ⟨m, w, V, he, hw, hW⟩ => by
    rw [hW]
    exact (hw.turn).snoc (mem_turn he)
theorem Dist.turn {l : List Ed} {a b W : Nat} (h : Dist l b a W) : Dist (turnL l) a b W := by
  obtain ⟨k, hk⟩ := h.1
  refine ⟨⟨k, hk.turn⟩, fun k V hV => ?_⟩
  have := hV.turn
  rw [turn_turn] at this
  exact h.2 _ _ this
theorem Inn.turn {l : List Ed} {n : Nat} (h : Inn l n) : Inn (turnL l) n := by
  intro e he
  obtain ⟨x, hx, rfl⟩ := List.mem_map.1 he
  exact ⟨(h x hx).2, (h x hx).1⟩
end Go.Proofs.Ytahbgafjljfndaa
