/-
  Plain facts about costs of nodes that are lowered from the least one waiting: what stands behind each step, what stands at the end: no program. Condition: at most 64 nodes, lengths up to 2^30.
-/
import Derived.Test.YtahbgafjljfndaaCmpn
namespace Go.Proofs.Ytahbgafjljfndaa
open Go

/-- A cost: the length, the number of edges. -/
abbrev Ct := Int × Int
def key (c : Ct) : Int := 128 * c.1 + c.2
def ltC (c d : Ct) : Bool := decide (c.1 < d.1) || (decide (c.1 = d.1) && decide (c.2 < d.2))
def farC : Ct := (68719476736, 0)
def plusC (c : Ct) (w : Nat) : Ct := (c.1 + (w : Int), c.2 + 1)
def gl (lab : List Ct) (i : Nat) : Ct := lab.getD i farC
theorem gl_at {lab : List Ct} {i : Nat} {c : Ct} (h : lab[i]? = some c) : gl lab i = c := by unfold gl; rw [List.getD_eq_getElem?_getD, h]; rfl
theorem at_gl {lab : List Ct} {i : Nat} (h : i < lab.length) : lab[i]? = some (gl lab i) := by
  obtain ⟨c, hc⟩ := at_lt h
  rw [hc, gl_at hc]
theorem gl_set {lab : List Ct} {t i : Nat} {c : Ct} (ht : t < lab.length) : gl (lab.set t c) i = if t = i then c else gl lab i := by
  unfold gl
  rw [List.getD_eq_getElem?_getD, List.getElem?_set, List.getD_eq_getElem?_getD]
  by_cases h : t = i
  · subst h; simp [ht]
  · simp [h]
theorem gl_same {lab : List Ct} {t : Nat} {c : Ct} (ht : t < lab.length) : gl (lab.set t c) t = c := by rw [gl_set ht, if_pos rfl]
theorem gl_other {lab : List Ct} {t i : Nat} {c : Ct} (ht : t < lab.length) (h : t ≠ i) : gl (lab.set t c) i = gl lab i := by rw [gl_set ht, if_neg h]
theorem ltC_iff (c d : Ct) : ltC c d = true ↔ c.1 < d.1 ∨ c.1 = d.1 ∧ c.2 < d.2 := by unfold ltC; simp
theorem ltC_key {c d : Ct} (h : ltC c d = true) (c1 : c.2 < 128) (d0 : 0 ≤ d.2) : key c < key d := by
  rw [ltC_iff] at h
  unfold key
  omega
theorem ltC_not {c d : Ct} (h : ltC c d = false) (c0 : 0 ≤ c.2) (d1 : d.2 < 128) : key d ≤ key c := by
  have h' : ¬ (c.1 < d.1 ∨ c.1 = d.1 ∧ c.2 < d.2) := fun x => by rw [(ltC_iff c d).2 x] at h; cases h
  unfold key
  omega
theorem nodup_len : ∀ (P : List Nat) (R : List Nat), P.Nodup → (∀ x ∈ P, x ∈ R) → P.length ≤ R.length
  | [], _, _, _ => Nat.zero_le _
  | x :: P, R, hn, hs => by
    obtain ⟨h1, h2⟩ := List.nodup_cons.1 hn
    have ih := nodup_len P (R.erase x) h2 fun y hy => (List.mem_erase_of_ne (fun e => h1 (by rw [← e]; exact hy))).2 (hs y (List.mem_cons_of_mem _ hy))
    have hx := hs x (by simp)
    have := List.length_erase_of_mem hx
    have := List.length_pos_of_mem hx
    rw [List.length_cons]
    omega
/-- The edges that leave a node. -/
def outs (D : List Ed) (v : Nat) : List Ed := D.filter fun e => e.1 == v
theorem mem_outs {D : List Ed} {v : Nat} {e : Ed} : e ∈ outs D v ↔ e ∈ D ∧ e.1 = v := by unfold outs; rw [List.mem_filter]; simp
/-- lab: the costs so far; Q: what waits; X: the nodes that are done; T: the edges that are still to be looked at; N: how many have waited; K: the last least cost. -/
structure Dj (D : List Ed) (n b : Nat) (lab : List Ct) (Q : List (Int × Ct)) (X : List Nat) (T : List Ed) (N : Nat) (K : Int) : Prop where
  len : lab.length = n
  bn : b < n
  src : gl lab b = (0, 0)
  wit : ∀ i, i < n → gl lab i = farC ∨ ∃ k W : Nat, gl lab i = ((W : Int), (k : Int)) ∧ W < 68719476736 ∧ k ≤ X.length ∧ Wl D i k b W
  qok : ∀ x ∈ Q, ∃ v k W : Nat, x = ((v : Int), (W : Int), (k : Int)) ∧ v < n ∧ W < 68719476736 ∧ k ≤ X.length ∧ K ≤ 128 * W + k ∧ key (gl lab v) ≤ 128 * W + k
  nod : Q.Nodup
  xnd : X.Nodup
  xok : ∀ v ∈ X, v < n ∧ key (gl lab v) ≤ K ∧ ((v : Int), gl lab v) ∉ Q
  kap : 0 ≤ K ∧ K < 8796093022208
  rea : ∀ i, i < n → gl lab i = farC ∨ ((i : Int), gl lab i) ∈ Q ∨ i ∈ X
  rlx : ∀ e ∈ D, e.1 ∈ X → e ∈ T ∨ key (gl lab e.2.1) ≤ key (gl lab e.1) + 128 * e.2.2 + 1
  cnt : N + (D.filter fun e => !X.contains e.1).length + T.length ≤ 1 + D.length
  qn : Q.length ≤ N
variable {D : List Ed} {n b : Nat} {lab : List Ct} {Q : List (Int × Ct)} {X : List Nat} {T : List Ed} {N : Nat} {K : Int}
theorem Dj.xlen (h : Dj D n b lab Q X T N K) : X.length ≤ n := by
  have := nodup_len X (List.range n) h.xnd fun x hx => List.mem_range.2 (h.xok x hx).1
  rwa [List.length_range] at this
theorem Dj.rng (h : Dj D n b lab Q X T N K) (hn : n ≤ 64) {i : Nat} (hi : i < n) : 0 ≤ (gl lab i).1 ∧ (gl lab i).1 ≤ 68719476736 ∧ 0 ≤ (gl lab i).2 ∧ (gl lab i).2 ≤ 64 := by
  have := h.xlen
  rcases h.wit i hi with e | ⟨k, W, e, hW, hk, _⟩
  · rw [e]; unfold farC; simp
  · rw [e]
    refine ⟨?_, ?_, ?_, ?_⟩ <;> simp <;> omega
theorem Dj.start (D : List Ed) {n b : Nat} (hb : b < n) : Dj D n b ((List.replicate n farC).set b (0, 0)) [((b : Int), ((0 : Int), (0 : Int)))] [] [] 1 0 := by
  have hl : b < (List.replicate n farC).length := by rw [List.length_replicate]; exact hb
  have ho : ∀ i, b ≠ i → gl ((List.replicate n farC).set b (0, 0)) i = farC := fun i hi => by
    rw [gl_other hl hi]
    unfold gl
    rw [List.getD_eq_getElem?_getD, List.getElem?_replicate]
    split <;> rfl
  refine ⟨by simp, hb, gl_same hl, fun i _ => ?_, fun x hx => ?_, by simp, List.nodup_nil, (fun v hv => by cases hv), by omega, fun i _ => ?_, (fun e _ he => by cases he), ?_, by simp⟩
  · by_cases e : b = i
    · subst e
      exact .inr ⟨0, 0, gl_same hl, by omega, Nat.le_refl _, rfl, rfl⟩
    · exact .inl (ho i e)
  · obtain rfl := List.mem_singleton.1 hx
    refine ⟨b, 0, 0, rfl, hb, by omega, Nat.le_refl _, by omega, ?_⟩
    rw [gl_same hl]; unfold key; simp
  · by_cases e : b = i
    · subst e
      exact .inr (.inl (by rw [gl_same hl]; simp))
    · exact .inl (ho i e)
  · have : (D.filter fun e => !([] : List Nat).contains e.1).length ≤ D.length := List.length_filter_le _ _
    simp only [List.length_nil]
    omega
theorem outs_count (D : List Ed) (X : List Nat) (v : Nat) (hv : v ∉ X) : (D.filter fun e => !(v :: X).contains e.1).length + (outs D v).length = (D.filter fun e => !X.contains e.1).length := by
  unfold outs
  induction D with
  | nil => rfl
  | cons e D ih =>
    simp only [List.filter_cons]
    by_cases h1 : e.1 = v
    · have h2 : X.contains e.1 = false := by rw [h1]; simpa using hv
      have h3 : (v :: X).contains e.1 = true := by rw [h1]; simp
      rw [h2, h3]
      simp [h1]
      simp at ih
      omega
    · have h3 : (v :: X).contains e.1 = X.contains e.1 := by simp [h1]
      rw [h3]
      cases h4 : X.contains e.1 <;> simp [h1] <;> simp at ih <;> omega
/-- The least of what waits is taken away. -/
theorem Dj.pop (h : Dj D n b lab Q X [] N K) (hn : n ≤ 64) {x : Int × Ct} {Q' : List (Int × Ct)} (hp : Q.Perm (x :: Q')) (hm : ∀ y ∈ Q', ltC y.2 x.2 = false) :
    ∃ v k W : Nat, x = ((v : Int), (W : Int), (k : Int)) ∧ v < n ∧ W < 68719476736 ∧ k ≤ 64 ∧
      ((gl lab v ≠ ((W : Int), (k : Int)) ∧ Dj D n b lab Q' X [] N (128 * W + k)) ∨ (gl lab v = ((W : Int), (k : Int)) ∧ v ∉ X ∧ k + 1 ≤ (v :: X).length ∧ Dj D n b lab Q' (v :: X) (outs D v) N (128 * W + k))) := by
  have hx : x ∈ Q := hp.symm.subset (by simp)
  have hxl := h.xlen
  obtain ⟨v, k, W, rfl, hv, hW, hk, hK, hgv⟩ := h.qok x hx
  have hs : ∀ y ∈ Q', y ∈ Q := fun y hy => hp.symm.subset (List.mem_cons_of_mem _ hy)
  have hnd := List.nodup_cons.1 (hp.nodup_iff.1 h.nod)
  have hlen := hp.length_eq
  rw [List.length_cons] at hlen
  have hqn := h.qn
  have hle : ∀ y ∈ Q', ∃ v' k' W' : Nat, y = ((v' : Int), (W' : Int), (k' : Int)) ∧ v' < n ∧ W' < 68719476736 ∧ k' ≤ X.length ∧ (128 * W + k : Int) ≤ 128 * W' + k' ∧ key (gl lab v') ≤ 128 * W' + k' := by
    intro y hy
    obtain ⟨v', k', W', rfl, a1, a2, a3, a4, a5⟩ := h.qok y (hs y hy)
    refine ⟨v', k', W', rfl, a1, a2, a3, ?_, a5⟩
    have := ltC_not (hm _ hy) (by simp) (by simp; omega)
    unfold key at this
    simpa using this
  refine ⟨v, k, W, rfl, hv, hW, by omega, ?_⟩
  have hkap := h.kap
  by_cases e : gl lab v = ((W : Int), (k : Int))
  · refine .inr ⟨e, fun hX => (h.xok v hX).2.2 (by rw [e]; exact hx), by rw [List.length_cons]; omega, ?_⟩
    have hX : v ∉ X := fun hX => (h.xok v hX).2.2 (by rw [e]; exact hx)
    refine ⟨h.len, h.bn, h.src, fun i hi => ?_, fun y hy => ?_, hnd.2, List.nodup_cons.2 ⟨hX, h.xnd⟩, fun u hu => ?_, by omega, fun i hi => ?_, fun e' he' hX' => ?_, ?_, by omega⟩
    · rcases h.wit i hi with a | ⟨k1, W1, a1, a2, a3, a4⟩
      · exact .inl a
      · exact .inr ⟨k1, W1, a1, a2, by rw [List.length_cons]; omega, a4⟩
    · obtain ⟨v', k', W', a0, a1, a2, a3, a4, a5⟩ := hle y hy
      exact ⟨v', k', W', a0, a1, a2, by rw [List.length_cons]; omega, a4, a5⟩
    · rcases List.mem_cons.1 hu with rfl | hu
      · refine ⟨hv, by rw [e]; unfold key; simp, ?_⟩
        rw [e]
        exact hnd.1
      · obtain ⟨a1, a2, a3⟩ := h.xok u hu
        exact ⟨a1, by omega, fun hq => a3 (hs _ hq)⟩
    · rcases h.rea i hi with a | a | a
      · exact .inl a
      · rcases List.mem_cons.1 (hp.subset a) with a | a
        · have : i = v := by have := congrArg Prod.fst a; simp at this; omega
          exact .inr (.inr (by rw [this]; simp))
        · exact .inr (.inl a)
      · exact .inr (.inr (List.mem_cons_of_mem _ a))
    · rcases List.mem_cons.1 hX' with a | a
      · exact .inl (mem_outs.2 ⟨he', a⟩)
      · rcases h.rlx e' he' a with c | c
        · cases c
        · exact .inr c
    · have := outs_count D X v hX
      have := h.cnt
      simp only [List.length_nil] at this
      omega
  · refine .inl ⟨e, ⟨h.len, h.bn, h.src, h.wit, hle, hnd.2, h.xnd, fun u hu => ?_, by omega, fun i hi => ?_, h.rlx, h.cnt, by omega⟩⟩
    · obtain ⟨a1, a2, a3⟩ := h.xok u hu
      exact ⟨a1, by omega, fun hq => a3 (hs _ hq)⟩
    · rcases h.rea i hi with a | a | a
      · exact .inl a
      · rcases List.mem_cons.1 (hp.subset a) with a | a
        · exfalso
          have h1 : i = v := by have := congrArg Prod.fst a; simp at this; omega
          have h2 := congrArg Prod.snd a
          subst h1
          exact e h2
        · exact .inr (.inl a)
      · exact .inr (.inr a)
/-- An edge that leads on at a lower cost. -/
theorem Dj.less {e : Ed} (h : Dj D n b lab Q X (e :: T) N K) (hn : n ≤ 64) (hX : e.1 ∈ X) (he : e ∈ D) (hl : Inn D n) (hK : key (gl lab e.1) = K) (hk : (gl lab e.1).2 + 1 ≤ (X.length : Int)) (hlt : ltC (plusC (gl lab e.1) e.2.2) (gl lab e.2.1) = true)
    {Q' : List (Int × Ct)} (hp : Q'.Perm (Q ++ [((e.2.1 : Int), plusC (gl lab e.1) e.2.2)])) : Dj D n b (lab.set e.2.1 (plusC (gl lab e.1) e.2.2)) Q' X T (N + 1) K ∧ gl (lab.set e.2.1 (plusC (gl lab e.1) e.2.2)) e.1 = gl lab e.1 := by
  obtain ⟨s, t, w⟩ := e
  simp only at *
  have hs := hl _ he
  simp only at hs
  have hxl := h.xlen
  have hkap := h.kap
  obtain ⟨k, W, hc, hW, hkl, hw⟩ : ∃ k W : Nat, gl lab s = ((W : Int), (k : Int)) ∧ W < 68719476736 ∧ k ≤ X.length ∧ Wl D s k b W := by
    rcases h.wit s hs.1 with a | a
    · rw [a] at hK; unfold key farC at hK; simp at hK; omega
    · exact a
  rw [hc] at hK hk hlt hp ⊢
  have hk1 : k + 1 ≤ X.length := by simp at hk; omega
  have hK' : (128 * W + k : Int) = K := by unfold key at hK; simpa using hK
  have hrt := h.rng hn hs.2
  have hkey : key (plusC ((W : Int), (k : Int)) w) = K + 128 * w + 1 := by unfold key plusC; simp; omega
  have hlow : key (plusC ((W : Int), (k : Int)) w) < key (gl lab t) := ltC_key hlt (by unfold plusC; simp; omega) hrt.2.2.1
  have hll : t < lab.length := by rw [h.len]; exact hs.2
  have htX : t ∉ X := fun hx => by
    have := (h.xok t hx).2.1
    omega
  have hst : t ≠ s := fun x => htX (x ▸ hX)
  have hbt : t ≠ b := fun x => by
    subst x
    rw [h.src, hkey] at hlow
    unfold key at hlow
    simp at hlow
    omega
  have hfall : ∀ i, key (gl (lab.set t (plusC ((W : Int), (k : Int)) w)) i) ≤ key (gl lab i) := fun i => by
    rw [gl_set hll]
    split
    · next x => subst x; omega
    · exact Int.le_refl _
  have hnq : ((t : Int), plusC ((W : Int), (k : Int)) w) ∉ Q := fun hq => by
    obtain ⟨v', k', W', a0, a1, a2, a3, a4, a5⟩ := h.qok _ hq
    have h1 : t = v' := by have := congrArg Prod.fst a0; simp at this; omega
    have h2 : plusC ((W : Int), (k : Int)) w = ((W' : Int), (k' : Int)) := congrArg Prod.snd a0
    subst h1
    rw [h2] at hlow
    unfold key at hlow a5
    simp at hlow a5
    omega
  have hmem : ∀ y, y ∈ Q' ↔ y ∈ Q ∨ y = ((t : Int), plusC ((W : Int), (k : Int)) w) := fun y => by rw [hp.mem_iff, List.mem_append, List.mem_singleton]
  have hlen := hp.length_eq
  rw [List.length_append, List.length_singleton] at hlen
  have hqn := h.qn
  refine ⟨⟨by rw [List.length_set]; exact h.len, h.bn, by rw [gl_other hll hbt]; exact h.src, fun i hi => ?_, fun y hy => ?_, ?_, h.xnd, fun u hu => ?_, hkap, fun i hi => ?_, fun e' he' hX' => ?_, ?_, by omega⟩, (gl_other hll hst).trans hc⟩
  · by_cases ht : t = i
    · subst ht
      rw [gl_same hll]
      refine .inr ⟨k + 1, W + w, by unfold plusC; simp, ?_, hk1, hw.snoc he⟩
      rw [ltC_iff] at hlt
      unfold plusC at hlt
      simp at hlt
      have := hrt.2.1
      rcases h.wit t hs.2 with a | ⟨k2, W2, a1, a2, a3, a4⟩
      · rw [a] at hlt
        unfold farC at hlt
        simp at hlt
        omega
      · rw [a1] at hlt
        simp at hlt
        omega
    · rw [gl_other hll ht]
      exact h.wit i hi
  · rcases (hmem y).1 hy with hq | rfl
    · obtain ⟨v', k', W', a0, a1, a2, a3, a4, a5⟩ := h.qok y hq
      exact ⟨v', k', W', a0, a1, a2, a3, a4, Int.le_trans (hfall v') a5⟩
    · refine ⟨t, k + 1, W + w, by unfold plusC; simp, hs.2, ?_, hk1, by simp; omega, ?_⟩
      · rw [ltC_iff] at hlt
        unfold plusC at hlt
        simp at hlt
        have := hrt.2.1
        rcases h.wit t hs.2 with a | ⟨k2, W2, a1, a2, a3, a4⟩
        · rw [a] at hlt
          unfold farC at hlt
          simp at hlt
          omega
        · rw [a1] at hlt
          simp at hlt
          omega
      · rw [gl_same hll, hkey]
        simp
        omega
  · rw [hp.nodup_iff, List.nodup_append]
    refine ⟨h.nod, by simp, fun x hx y hy e => ?_⟩
    obtain rfl := List.mem_singleton.1 hy
    exact hnq (e ▸ hx)
  · obtain ⟨a1, a2, a3⟩ := h.xok u hu
    have hut : t ≠ u := fun x => htX (x ▸ hu)
    rw [gl_other hll hut]
    refine ⟨a1, a2, fun hq => ?_⟩
    rcases (hmem _).1 hq with hq | hq
    · exact a3 hq
    · have := congrArg Prod.fst hq
      simp at this
      exact hut (by omega)
  · by_cases ht : t = i
    · subst ht
      rw [gl_same hll]
      exact .inr (.inl ((hmem _).2 (.inr rfl)))
    · rw [gl_other hll ht]
      rcases h.rea i hi with a | a | a
      · exact .inl a
      · exact .inr (.inl ((hmem _).2 (.inl a)))
      · exact .inr (.inr a)
  · have hne : t ≠ e'.1 := fun x => htX (x ▸ hX')
    rw [gl_other hll hne]
    rcases h.rlx e' he' hX' with a | a
    · rcases List.mem_cons.1 a with a | a
      · subst a
        refine .inr ?_
        simp only
        rw [gl_same hll, hkey, hc]
        unfold key
        simp
        omega
      · exact .inl a
    · exact .inr (Int.le_trans (hfall _) a)
  · have := h.cnt
    rw [List.length_cons] at this
    omega
/-- An edge that does not. -/
theorem Dj.keep {e : Ed} (h : Dj D n b lab Q X (e :: T) N K) (hn : n ≤ 64) (he : e ∈ D) (hl : Inn D n) (hlt : ltC (plusC (gl lab e.1) e.2.2) (gl lab e.2.1) = false) : Dj D n b lab Q X T N K := by
  have hs := hl _ he
  have r1 := h.rng hn hs.1
  have r2 := h.rng hn hs.2
  refine ⟨h.len, h.bn, h.src, h.wit, h.qok, h.nod, h.xnd, h.xok, h.kap, h.rea, fun e' he' hX' => ?_, ?_, h.qn⟩
  · rcases h.rlx e' he' hX' with a | a
    · rcases List.mem_cons.1 a with rfl | a
      · refine .inr ?_
        have := ltC_not hlt (by unfold plusC; simp; omega) (by omega)
        unfold key plusC at this
        unfold key
        simp at this ⊢
        omega
      · exact .inl a
    · exact .inr a
  · have := h.cnt
    rw [List.length_cons] at this
    omega
theorem Wl.bound {l : List Ed} {b B : Nat} (hB : ∀ e ∈ l, e.2.2 ≤ B) : ∀ {k a W : Nat}, Wl l b k a W → W ≤ k * B
  | 0, _, _, ⟨_, hW⟩ => by omega
  | k + 1, a, W, ⟨m, w, V, he, hw, hW⟩ => by
    have := hw.bound hB
    have := hB _ he
    simp only at this
    rw [Nat.add_mul]
    omega
/-- What the costs are at the end. -/
def Lc (D : List Ed) (n b : Nat) (lab : List Ct) : Prop := lab.length = n ∧ ∀ i, i < n → (gl lab i = farC ∧ ∀ k W, ¬ Wl D i k b W) ∨ ∃ c : Nat, gl lab i = (((c / 128 : Nat) : Int), ((c % 128 : Nat) : Int)) ∧ c / 128 < 68719476736 ∧ Mn 128 (turnL D) b i c
theorem Dj.done (h : Dj D n b lab [] X [] N K) (hn : n ≤ 64) (hl : Inn D n) (hw : ∀ e ∈ D, e.2.2 ≤ 1073741824) : Lc D n b lab := by
  have hxl := h.xlen
  have key1 : ∀ k i W, Wl (turnL D) b k i W → k ≤ 64 → W < 68719476736 → key (gl lab i) ≤ 128 * (W : Int) + (k : Int) := by
    intro k
    induction k with
    | zero =>
      rintro i W ⟨rfl, rfl⟩ _ _
      rw [h.src]
      unfold key
      simp
    | succ k ih =>
      rintro i W ⟨m, w, V, he, hv, rfl⟩ h1 h2
      have a := ih m V hv (by omega) (by omega)
      have he' := mem_turn he
      rw [turn_turn] at he'
      have hin := hl _ he'
      have hX : m ∈ X := by
        rcases h.rea m hin.1 with c | c | c
        · rw [c] at a
          unfold key farC at a
          simp at a
          omega
        · cases c
        · exact c
      rcases h.rlx _ he' hX with c | c
      · cases c
      · simp only at c
        omega
  have top : ∀ i k W, Wl D i k b W → ∃ c : Nat, Mn 128 (turnL D) b i c ∧ key (gl lab i) ≤ (c : Int) ∧ (c : Int) < 8796093022208 := by
    intro i k W hk
    obtain ⟨c, hc⟩ := Mn.exists ((hk.turn).wk 128)
    obtain ⟨k', hk'⟩ := hc.1
    have h1 := least_edges hl.turn h.bn hk' hc
    obtain ⟨W', hW', rfl⟩ := hk'.wl
    have h2 : W' ≤ k' * 1073741824 := hW'.bound fun e he => by
      obtain ⟨x, hx, rfl⟩ := List.mem_map.1 he
      exact hw x hx
    have h3 : k' * 1073741824 ≤ 63 * 1073741824 := Nat.mul_le_mul_right _ (by omega)
    have h4 := key1 k' i W' hW' (by omega) (by omega)
    exact ⟨_, hc, by simpa using h4, by simp; omega⟩
  refine ⟨h.len, fun i hi => ?_⟩
  rcases h.wit i hi with e | ⟨k, W, e, h1, h2, h3⟩
  · refine .inl ⟨e, fun k W hk => ?_⟩
    obtain ⟨c, _, a1, a2⟩ := top i k W hk
    rw [e] at a1
    unfold key farC at a1
    simp at a1
    omega
  · obtain ⟨c, hc, a1, a2⟩ := top i k W h3
    have a3 := hc.2 _ _ ((h3.turn).wk 128)
    rw [e] at a1
    unfold key at a1
    simp at a1
    have e1 : c / 128 = W := by omega
    have e2 : c % 128 = k := by omega
    exact .inr ⟨c, by rw [e1, e2]; exact e, by omega, hc⟩

/-! ### The distances -/
def distC (c : Ct) : Int := if c.1 = 68719476736 then -1 else c.1
theorem Lc.dist (h : Lc D n b lab) (hn : n ≤ 64) (hb : b < n) (hl : Inn D n) : lab.map distC = distL n D b := by
  apply List.ext_getElem?
  intro i
  by_cases hi : i < n
  · rw [List.getElem?_map, at_gl (by rw [h.1]; exact hi)]
    show some (distC (gl lab i)) = _
    rcases h.2 i hi with ⟨e, hno⟩ | ⟨c, e, h1, h2⟩
    · rcases distL_spec hl hb (by omega) i hi with ⟨x, hx, rfl, _⟩ | ⟨W, hx, hd⟩
      · rw [hx, e]; rfl
      · obtain ⟨k, hk⟩ := hd.1
        exact absurd hk (hno _ _)
    · have hd := (h2.dist hl.turn hb (by omega)).1.turn
      rw [turn_turn] at hd
      rcases distL_spec hl hb (by omega) i hi with ⟨x, hx, _, hno⟩ | ⟨W, hx, hd'⟩
      · obtain ⟨k, hk⟩ := hd.1
        exact absurd hk (hno _ _)
      · rw [hx, e, ← hd.uniq hd']
        unfold distC
        simp only
        rw [if_neg (by omega)]
  · rw [List.getElem?_eq_none (by rw [List.length_map, h.1]; omega), List.getElem?_eq_none (by rw [distL_length]; omega)]
end Go.Proofs.Ytahbgafjljfndaa
