/-
  Plain facts about the distances of a graph by node, and about its components: first nodes found by rounds, their numbers: no program. Condition: none beyond each theorem's own hypotheses.
-/
import Derived.Test.YtahbgafjljfndaaSho
namespace Go.Proofs.Ytahbgafjljfndaa
open Go

/-! ### Distances by node -/
/-- The distance out of a cost. -/
def dist1 (c : Int) : Int := if 0 ≤ c then c / 128 else c
def distL (n : Nat) (l : List Ed) (a : Nat) : List Int := (costL n (turnL l) a).map dist1
theorem distL_length (n : Nat) (l : List Ed) (a : Nat) : (distL n l a).length = n := by unfold distL; rw [List.length_map, costL_length]
theorem distL_spec {l : List Ed} {n a : Nat} (hl : Inn l n) (ha : a < n) (hn : n ≤ 128) (i : Nat) (hi : i < n) : (∃ x, (distL n l a)[i]? = some x ∧ x = -1 ∧ ∀ k W, ¬ Wl l i k a W) ∨ ∃ W : Nat, (distL n l a)[i]? = some (W : Int) ∧ Dist l i a W := by
  have hlen := costL_length n (turnL l) a
  obtain ⟨c, hc⟩ := at_lt (l := costL n (turnL l) a) (k := i) (by omega)
  have hd : (costL n (turnL l) a).getD i (-1) = c := by rw [List.getD_eq_getElem?_getD, hc]; rfl
  have he : (distL n l a)[i]? = some (dist1 c) := by unfold distL; rw [List.getElem?_map, hc]; rfl
  rcases costL_spec hl.turn ha i with ⟨h1, h2⟩ | ⟨m, h1, h2⟩
  · rw [hd] at h1
    subst h1
    exact Or.inl ⟨_, he, rfl, fun k W hw => h2 _ _ ((hw.turn).wk 128)⟩
  · rw [hd] at h1
    subst h1
    have := (h2.dist hl.turn ha hn).1.turn
    rw [turn_turn] at this
    refine Or.inr ⟨m / 128, ?_, this⟩
    rw [he]
    unfold dist1
    rw [if_pos (Int.natCast_nonneg m)]
    rfl

/-! ### Components -/
/-- The edges in both directions. -/
def bothL (l : List Ed) : List Ed := l ++ turnL l
/-- Two nodes are connected. -/
def Cn (l : List Ed) (a b : Nat) : Prop := ∃ k W, Wl (bothL l) b k a W
theorem Cn.refl (l : List Ed) (a : Nat) : Cn l a a := ⟨0, 0, rfl, rfl⟩
theorem Cn.trans {l : List Ed} {a b c : Nat} (h : Cn l a b) (h' : Cn l b c) : Cn l a c := by
  obtain ⟨k, W, hk⟩ := h
  obtain ⟨k', W', hk'⟩ := h'
  exact ⟨_, _, hk.app hk'⟩
theorem mem_both {l : List Ed} {a b w : Nat} (h : (a, b, w) ∈ bothL l) : (b, a, w) ∈ bothL l := by
  unfold bothL at *
  rcases List.mem_append.1 h with h | h
  · exact List.mem_append.2 (Or.inr (mem_turn h))
  · have := mem_turn h
    rw [turn_turn] at this
    exact List.mem_append.2 (Or.inl this)
theorem Wl.back {l : List Ed} {b : Nat} : ∀ {k a W : Nat}, Wl (bothL l) b k a W → Wl (bothL l) a k b W
  | 0, _, _, ⟨ha, hW⟩ => ⟨ha.symm, hW⟩
  | k + 1, a, W, ⟨m, w, V, he, hw, hW⟩ => by
    rw [hW]
    exact (hw.back).snoc (mem_both he)
theorem Cn.symm {l : List Ed} {a b : Nat} (h : Cn l a b) : Cn l b a := by
  obtain ⟨k, W, hk⟩ := h
  exact ⟨k, W, hk.back⟩
theorem Cn.edge {l : List Ed} {a b w : Nat} (h : (a, b, w) ∈ l) : Cn l a b := ⟨1, w, b, w, 0, List.mem_append.2 (Or.inl h), ⟨rfl, rfl⟩, (Nat.zero_add _).symm⟩
theorem Inn.both {l : List Ed} {n : Nat} (h : Inn l n) : Inn (bothL l) n := by
  intro e he
  rcases List.mem_append.1 he with he | he
  · exact h e he
  · exact h.turn e he
theorem Cn.lt {l : List Ed} {n a b : Nat} (h : Inn l n) (hc : Cn l a b) (hb : b < n) : a < n := by
  obtain ⟨k, W, hk⟩ := hc
  cases k with
  | zero => exact hk.1 ▸ hb
  | succ k => obtain ⟨m, w, V, he, -, -⟩ := hk; exact (h.both _ he).1
/-- The first node that is connected with a. -/
def Fst (l : List Ed) (a f : Nat) : Prop := Cn l a f ∧ ∀ b, Cn l a b → f ≤ b
theorem Fst.uniq {l : List Ed} {a f g : Nat} (h : Fst l a f) (h' : Fst l a g) : f = g := by
  have := h.2 _ h'.1
  have := h'.2 _ h.1
  omega
theorem Fst.exists (l : List Ed) (a : Nat) : ∃ f, Fst l a f := by
  obtain ⟨m, hm, hl⟩ := least_of (p := fun b => Cn l a b) a (Cn.refl l a)
  exact ⟨m, hm, hl⟩
theorem Fst.of {l : List Ed} {a b f : Nat} (h : Fst l a f) (hc : Cn l b a) : Fst l b f := ⟨hc.trans h.1, fun x hx => h.2 x (hc.symm.trans hx)⟩
theorem Fst.same {l : List Ed} {a f : Nat} (h : Fst l a f) : Fst l f f := h.of h.1.symm
/-- A node is as many steps from its first one as there are nodes, or fewer. -/
theorem Fst.near {l : List Ed} {n a f : Nat} (hl : Inn l n) (ha : a < n) (h : Fst l a f) : ∃ k W, k < n ∧ Wl (bothL l) f k a W := by
  obtain ⟨k, W, hk⟩ := h.1
  have hf : f < n := (h.1.symm).lt hl ha
  obtain ⟨c, hc⟩ := Mn.exists (hk.wk 128)
  obtain ⟨k', hk'⟩ := hc.1
  have := least_edges hl.both hf hk' hc
  obtain ⟨W', hW', -⟩ := hk'.wl
  exact ⟨k', W', this, hW'⟩

/-! ### Rounds -/
/-- One edge: both ends get the smaller of their numbers. -/
def lab (f : List Int) (e : Ed) : List Int := if f.getD e.1 0 < f.getD e.2.1 0 then f.set e.2.1 (f.getD e.1 0) else f.set e.1 (f.getD e.2.1 0)
def labL (l : List Ed) (f : List Int) : List Int := l.foldl lab f
def labN (l : List Ed) : Nat → List Int → List Int
  | 0, f => f
  | k + 1, f => labN l k (labL l f)
def labS (n : Nat) : List Int := (List.range n).map Int.ofNat
def firstL (n : Nat) (l : List Ed) : List Int := labN l n (labS n)
theorem lab_length (f : List Int) (e : Ed) : (lab f e).length = f.length := by unfold lab; split <;> rw [List.length_set]
theorem labL_length : ∀ (l : List Ed) (f : List Int), (labL l f).length = f.length
  | [], _ => rfl
  | e :: l, f => by
    show (labL l (lab f e)).length = _
    rw [labL_length l, lab_length]
theorem labN_length (l : List Ed) : ∀ (k : Nat) (f : List Int), (labN l k f).length = f.length
  | 0, _ => rfl
  | k + 1, f => by
    show (labN l k (labL l f)).length = _
    rw [labN_length l k, labL_length]
theorem labS_length (n : Nat) : (labS n).length = n := by unfold labS; rw [List.length_map, List.length_range]
theorem firstL_length (n : Nat) (l : List Ed) : (firstL n l).length = n := by unfold firstL; rw [labN_length, labS_length]
/-- Each number is a node that is connected with its own. -/
def Lb (L : List Ed) (n : Nat) (f : List Int) : Prop := ∀ i, i < n → ∃ x : Nat, f.getD i 0 = (x : Int) ∧ Cn L i x
theorem lb_lab {L : List Ed} {n : Nat} {f : List Int} {e : Ed} (hl : Inn L n) (h : Lb L n f) (he : e ∈ L) : Lb L n (lab f e) := by
  obtain ⟨x, hx, cx⟩ := h e.1 (hl e he).1
  obtain ⟨y, hy, cy⟩ := h e.2.1 (hl e he).2
  have ce : Cn L e.1 e.2.1 := Cn.edge (w := e.2.2) he
  intro i hi
  unfold lab
  split
  · rw [getD_set]
    split
    · next h2 => obtain ⟨rfl, -⟩ := h2; exact ⟨x, hx, ce.symm.trans cx⟩
    · exact h i hi
  · rw [getD_set]
    split
    · next h2 => obtain ⟨rfl, -⟩ := h2; exact ⟨y, hy, ce.trans cy⟩
    · exact h i hi
theorem lb_labL {L : List Ed} {n : Nat} (hl : Inn L n) : ∀ {l : List Ed} {f : List Int}, Lb L n f → (∀ e ∈ l, e ∈ L) → Lb L n (labL l f)
  | [], _, h, _ => h
  | e :: l, f, h, hm => by
    show Lb L n (labL l (lab f e))
    exact lb_labL hl (lb_lab hl h (hm e (by simp))) fun x hx => hm x (List.mem_cons_of_mem _ hx)
theorem lb_labN {L : List Ed} {n : Nat} (hl : Inn L n) : ∀ {k : Nat} {f : List Int}, Lb L n f → Lb L n (labN L k f)
  | 0, _, h => h
  | k + 1, f, h => by
    show Lb L n (labN L k (labL L f))
    exact lb_labN hl (lb_labL hl h fun _ hx => hx)
theorem labS_at {n i : Nat} (h : i < n) : (labS n).getD i 0 = (i : Int) := by
  unfold labS
  rw [List.getD_eq_getElem?_getD, List.getElem?_map, List.getElem?_range h]
  rfl
theorem lb_start (L : List Ed) (n : Nat) : Lb L n (labS n) := fun i hi => ⟨i, labS_at hi, Cn.refl _ _⟩
/-- The number has come down to c. -/
def Dn (f : List Int) (i c : Nat) : Prop := f.getD i 0 ≤ (c : Int)
theorem dn_lab {f : List Int} {e : Ed} {i c : Nat} (h : Dn f i c) : Dn (lab f e) i c := by
  unfold Dn at *
  unfold lab
  split
  · rw [getD_set]
    split
    · next h2 h3 => obtain ⟨rfl, -⟩ := h3; omega
    · exact h
  · rw [getD_set]
    split
    · next h2 h3 => obtain ⟨rfl, -⟩ := h3; omega
    · exact h
theorem dn_labL {i c : Nat} : ∀ {l : List Ed} {f : List Int}, Dn f i c → Dn (labL l f) i c
  | [], _, h => h
  | e :: l, f, h => by
    show Dn (labL l (lab f e)) i c
    exact dn_labL (dn_lab h)
theorem dn_labN {L : List Ed} {i c : Nat} : ∀ {k : Nat} {f : List Int}, Dn f i c → Dn (labN L k f) i c
  | 0, _, h => h
  | k + 1, f, h => by
    show Dn (labN L k (labL L f)) i c
    exact dn_labN (dn_labL h)
theorem lab_hits {f : List Int} {a b w c : Nat} (ha : a < f.length) (hb : b < f.length) : (Dn f a c → Dn (lab f (a, b, w)) b c) ∧ (Dn f b c → Dn (lab f (a, b, w)) a c) := by
  unfold Dn lab
  simp only
  refine ⟨fun h => ?_, fun h => ?_⟩
  · split
    · rw [getD_set, if_pos ⟨rfl, hb⟩]; exact h
    · rw [getD_set]
      split
      · next h3 => obtain ⟨rfl, -⟩ := h3; omega
      · omega
  · split
    · rw [getD_set]
      split
      · next h3 => obtain ⟨rfl, -⟩ := h3; omega
      · omega
    · rw [getD_set, if_pos ⟨rfl, ha⟩]; exact h
theorem labL_hits {a b w c : Nat} : ∀ {l : List Ed} {f : List Int}, (a, b, w) ∈ l → a < f.length → b < f.length → (Dn f a c → Dn (labL l f) b c) ∧ (Dn f b c → Dn (labL l f) a c)
  | [], _, he, _, _ => by cases he
  | e :: l, f, he, ha, hb => by
    show (Dn f a c → Dn (labL l (lab f e)) b c) ∧ (Dn f b c → Dn (labL l (lab f e)) a c)
    rcases List.mem_cons.1 he with rfl | he
    · exact ⟨fun h => dn_labL ((lab_hits ha hb).1 h), fun h => dn_labL ((lab_hits ha hb).2 h)⟩
    · have ih := labL_hits (l := l) (f := lab f e) (c := c) he (by rw [lab_length]; exact ha) (by rw [lab_length]; exact hb)
      exact ⟨fun h => ih.1 (dn_lab h), fun h => ih.2 (dn_lab h)⟩
theorem labN_done {L : List Ed} {n c : Nat} (hl : Inn L n) : ∀ {k : Nat} {f : List Int}, f.length = n → Dn f c c → ∀ {j i W : Nat}, j ≤ k → Wl (bothL L) c j i W → Dn (labN L k f) i c := by
  have key : ∀ (k : Nat) (f : List Int), f.length = n → ∀ r, (∀ {j i W : Nat}, j ≤ r → Wl (bothL L) c j i W → Dn f i c) → ∀ {j i W : Nat}, j ≤ r + k → Wl (bothL L) c j i W → Dn (labN L k f) i c := by
    intro k
    induction k with
    | zero => intro f _ r h j i W hj hw; exact h hj hw
    | succ k ih =>
      intro f hf r h j i W hj hw
      refine ih (labL L f) (by rw [labL_length]; exact hf) (r + 1) ?_ (by omega) hw
      intro j i W hj hw
      rcases Nat.lt_or_ge r j with hr | hr
      · obtain rfl : j = r + 1 := by omega
        obtain ⟨m, w, V, he, hw', rfl⟩ := hw
        have hm := h (Nat.le_refl _) hw'
        rcases List.mem_append.1 he with he | he
        · have hh := hl _ he
          exact (labL_hits he (by rw [hf]; exact hh.1) (by rw [hf]; exact hh.2)).2 hm
        · have he' := mem_turn he
          rw [turn_turn] at he'
          have hh := hl _ he'
          exact (labL_hits he' (by rw [hf]; exact hh.1) (by rw [hf]; exact hh.2)).1 hm
      · exact dn_labL (h hr hw)
  intro k f hf h0 j i W hj hw
  refine key k f hf 0 ?_ (by omega) hw
  intro j i W hj hw
  obtain rfl : j = 0 := by omega
  obtain ⟨rfl, rfl⟩ := hw
  exact h0
/-- The rounds find the first nodes. -/
theorem firstL_spec {L : List Ed} {n i : Nat} (hl : Inn L n) (hi : i < n) : ∃ f : Nat, (firstL n L).getD i 0 = (f : Int) ∧ Fst L i f := by
  obtain ⟨x, hx, cx⟩ := lb_labN (k := n) hl (lb_start L n) i hi
  obtain ⟨f, hf⟩ := Fst.exists L i
  obtain ⟨k, W, hk, hw⟩ := hf.near hl hi
  have hfn : f < n := (hf.1.symm).lt hl hi
  have h1 : Dn (firstL n L) i f := labN_done hl (labS_length n) (by unfold Dn; rw [labS_at hfn]; exact Int.le_refl _) (Nat.le_of_lt hk) hw
  have h2 := hf.2 _ cx
  refine ⟨f, ?_, hf⟩
  unfold Dn at h1
  unfold firstL at h1 ⊢
  rw [hx] at h1 ⊢
  omega

/-! ### Their numbers -/
/-- How many of the nodes below k are the first ones of their components. -/
def rank (f : List Int) (k : Nat) : Nat := ((List.range k).filter fun j => decide (f.getD j 0 = (j : Int))).length
theorem rank_zero (f : List Int) : rank f 0 = 0 := rfl
theorem filter_one (p : Nat → Bool) (k : Nat) : ([k].filter p).length = if p k = true then 1 else 0 := by
  cases h : p k <;> simp [List.filter, h]
theorem rank_succ (f : List Int) (k : Nat) : rank f (k + 1) = rank f k + if f.getD k 0 = (k : Int) then 1 else 0 := by
  unfold rank
  rw [List.range_succ, List.filter_append, List.length_append]
  rw [filter_one]
  by_cases h : f.getD k 0 = (k : Int)
  · rw [if_pos (decide_eq_true h), if_pos h]
  · rw [if_neg (by rw [decide_eq_false h]; decide), if_neg h]
/-- The number of each node's component. -/
def compL (f : List Int) : List Int := (List.range f.length).map fun i => ((rank f (f.getD i 0).toNat : Nat) : Int)
theorem compL_length (f : List Int) : (compL f).length = f.length := by unfold compL; rw [List.length_map, List.length_range]
theorem compL_at {f : List Int} {i : Nat} (h : i < f.length) : (compL f)[i]? = some ((rank f (f.getD i 0).toNat : Nat) : Int) := by
  unfold compL
  rw [List.getElem?_map, List.getElem?_range h]
  rfl
end Go.Proofs.Ytahbgafjljfndaa
