/-
  The Pareto front found by selection: the least candidate that follows the last one found, again and again. Condition: none beyond each theorem's own hypotheses.
-/
import Derived.Test.YtokcpgpchiikgaaPar
namespace Go.Proofs.Ytokcpgpchiikgaa

/-- What the search for the next vector knows when it has seen i vectors: no candidate, or the least of those seen. -/
def BR (l G : List Vec) (i : Nat) (b : Int) : Prop :=
  (b = -1 ∧ ∀ y ∈ l.take i, ¬ y ∈ G) ∨ ∃ (n : Nat) (x : Vec), b = (n : Int) ∧ n < i ∧ l[n]? = some x ∧ x ∈ G ∧ ∀ y ∈ l.take i, y ∈ G → cv x y ≤ 0
theorem BR.start (l G : List Vec) : BR l G 0 (-1) := .inl ⟨rfl, fun y hy => by simp at hy⟩
theorem take_mem {l : List Vec} {i : Nat} {x y : Vec} (h : l[i]? = some x) : y ∈ l.take (i + 1) ↔ y ∈ l.take i ∨ y = x := by
  rw [show l.take (i + 1) = l.take i ++ [x] by rw [List.take_add_one, h]; rfl, List.mem_append, List.mem_singleton]
theorem BR.skip {l G : List Vec} {i : Nat} {b : Int} {x : Vec} (h : BR l G i b) (hx : l[i]? = some x) (hg : ¬ x ∈ G) : BR l G (i + 1) b := by
  rcases h with ⟨h1, h2⟩ | ⟨n, z, h1, h2, h3, h4, h5⟩
  · refine .inl ⟨h1, fun y hy => ?_⟩
    rcases (take_mem hx).1 hy with hy | rfl
    · exact h2 y hy
    · exact hg
  · refine .inr ⟨n, z, h1, by omega, h3, h4, fun y hy hyg => ?_⟩
    rcases (take_mem hx).1 hy with hy | rfl
    · exact h5 y hy hyg
    · exact absurd hyg hg
theorem BR.first {l G : List Vec} {i : Nat} {x : Vec} (h : BR l G i (-1)) (hx : l[i]? = some x) (hg : x ∈ G) : BR l G (i + 1) (i : Int) := by
  rcases h with ⟨_, h2⟩ | ⟨n, _, h1, _⟩
  · refine .inr ⟨i, x, rfl, by omega, hx, hg, fun y hy hyg => ?_⟩
    rcases (take_mem hx).1 hy with hy | rfl
    · exact absurd hyg (h2 y hy)
    · rw [cv_self]; omega
  · omega
theorem BR.less {l G : List Vec} {i n : Nat} {x z : Vec} (h : BR l G i (n : Int)) (hz : l[n]? = some z) (hx : l[i]? = some x) (hg : x ∈ G) (hc : cv x z < 0) : BR l G (i + 1) (i : Int) := by
  rcases h with ⟨h1, _⟩ | ⟨m, z', h1, _, h3, _, h5⟩
  · omega
  · obtain rfl : n = m := by omega
    rw [hz] at h3
    cases h3
    refine .inr ⟨i, x, rfl, by omega, hx, hg, fun y hy hyg => ?_⟩
    rcases (take_mem hx).1 hy with hy | rfl
    · exact Int.le_of_lt (cv_lt_le hc (h5 y hy hyg))
    · rw [cv_self]; omega
theorem BR.keep {l G : List Vec} {i n : Nat} {x z : Vec} (h : BR l G i (n : Int)) (hz : l[n]? = some z) (hx : l[i]? = some x) (hc : ¬ cv x z < 0) : BR l G (i + 1) (n : Int) := by
  rcases h with ⟨h1, _⟩ | ⟨m, z', h1, h2, h3, h4, h5⟩
  · omega
  · obtain rfl : n = m := by omega
    rw [hz] at h3
    cases h3
    refine .inr ⟨n, z, rfl, by omega, hz, h4, fun y hy hyg => ?_⟩
    rcases (take_mem hx).1 hy with hy | rfl
    · exact h5 y hy hyg
    · exact (cv_not _ _).1 hc
theorem BR.cases {l G : List Vec} {i : Nat} {b : Int} (h : BR l G i b) (hi : i ≤ l.length) : b = -1 ∨ ∃ (n : Nat) (z : Vec), b = (n : Int) ∧ n < l.length ∧ l[n]? = some z := by
  rcases h with ⟨h1, _⟩ | ⟨n, z, h1, h2, h3, _⟩
  · exact .inl h1
  · exact .inr ⟨n, z, h1, by omega, h3⟩
theorem BR.none {l G : List Vec} (h : BR l G l.length (-1)) (hG : ∀ z ∈ G, z ∈ l) : G = [] := by
  rcases h with ⟨_, h2⟩ | ⟨n, _, h1, _⟩
  · cases G with
    | nil => rfl
    | cons a r => exact absurd List.mem_cons_self (h2 a (by rw [List.take_length]; exact hG a List.mem_cons_self))
  · omega
theorem BR.some {l G : List Vec} {n : Nat} {z : Vec} (h : BR l G l.length (n : Int)) (hz : l[n]? = some z) (hG : ∀ z ∈ G, z ∈ l) (ha : Asc G) : ∃ r, G = z :: r := by
  rcases h with ⟨h1, _⟩ | ⟨m, z', h1, h2, h3, h4, h5⟩
  · omega
  · obtain rfl : n = m := by omega
    rw [hz] at h3
    cases h3
    cases G with
    | nil => cases h4
    | cons a r =>
      refine ⟨r, ?_⟩
      rcases List.mem_cons.1 h4 with e | e
      · rw [e]
      · have k1 := (List.pairwise_cons.1 ha).1 z e
        have k2 := h5 a (by rw [List.take_length]; exact hG a List.mem_cons_self) List.mem_cons_self
        have := cv_flip a z
        omega
/-- Which vectors are candidates: those of the front that come behind the last one found. -/
theorem cand_dom {l O G : List Vec} (h : Frt l (O ++ G)) {x : Vec} (hd : dmd l x = true) : ¬ x ∈ G := by
  intro hx
  obtain ⟨u, hu, hux⟩ := (dmd_iff l x).1 hd
  rw [h.best x (List.mem_append_right _ hx) u hu] at hux
  cases hux
theorem cand_mem {l O G : List Vec} (h : Frt l (O ++ G)) {x : Vec} (hx : x ∈ l) (hd : dmd l x = false) : x ∈ O ∨ x ∈ G :=
  List.mem_append.1 ((h.mem x).2 ⟨hx, (dmd_no l x).1 hd⟩)
theorem cand_first {l G : List Vec} (h : Frt l ([] ++ G)) {x : Vec} (hx : x ∈ l) (hd : dmd l x = false) : x ∈ G := by
  rcases cand_mem h hx hd with k | k
  · cases k
  · exact k
theorem cand_low {l O G : List Vec} (h : Frt l (O ++ G)) {x z : Vec} (hz : O[O.length - 1]? = some z) (hc : cv x z ≤ 0) : ¬ x ∈ G := by
  intro hx
  have h1 := (List.pairwise_append.1 h.asc).2.2 z (List.mem_iff_getElem?.2 ⟨_, hz⟩) x hx
  have := cv_flip z x
  omega
theorem cand_high {l O G : List Vec} (h : Frt l (O ++ G)) {x z : Vec} (hz : O[O.length - 1]? = some z) (hc : ¬ cv x z ≤ 0) (hx : x ∈ l) (hd : dmd l x = false) : x ∈ G := by
  rcases cand_mem h hx hd with k | k
  · exfalso
    obtain ⟨t, ht, rfl⟩ := List.mem_iff_getElem.1 k
    obtain ⟨hz1, rfl⟩ := List.getElem?_eq_some_iff.1 hz
    rcases Nat.lt_or_eq_of_le (show t ≤ O.length - 1 by omega) with e | e
    · exact hc (Int.le_of_lt (List.pairwise_iff_getElem.1 (List.pairwise_append.1 h.asc).1 t (O.length - 1) ht hz1 e))
    · apply hc
      rw [(cv_zero _ _).2 (by congr)]
      omega
  · exact k
end Go.Proofs.Ytokcpgpchiikgaa
