/-
  Plain facts about walks in a graph with lengths: the least cost (128 times the length, plus the number of edges), rounds of relaxation that find it, the distance in it: no program. Condition: none beyond each theorem's own hypotheses. Plain facts about lengths of shortest walks that are found by three loops over a matrix (Floyd and Warshall), in place: what the matrix tells in the middle of a round, between rounds and at the end: no program. Condition: none beyond each theorem's own hypotheses. Plain facts about the distances of a graph by node, and about its components: first nodes found by rounds, their numbers: no program. Condition: none beyond each theorem's own hypotheses. Plain facts about footpaths: the first one that is not valid, the smallest time between two stops, the closure, which is closed: no program. Condition: none beyond each theorem's own hypotheses. Plain facts about footpaths looked up: the smallest time between two stops, the stops around a stop, what both say of a closure: no program. Condition: none beyond each theorem's own hypotheses. Footpaths in memory: the cells of a footpath, a footpath put into a box of its own, slices of footpaths that came in or are the call's own: an element read, an element stored. Condition: none beyond each theorem's own hypotheses. A map from footpaths without their seconds to bools that a call makes: which keys it holds; what a look-up answers, what a store leaves. Condition: the entries are fewer than 2^40, the numbers are of 64 bits. Plain facts about costs of nodes that are lowered from the least one waiting: what stands behind each step, what stands at the end: no program. Condition: at most 64 nodes, lengths up to 2^30. Plain facts about a path that goes from node to node, each time to the least node from which the rest of the cost remains; the least length of the edges between two nodes: no program. Condition: at most 64 nodes. Plain facts about components found by joining nodes: each node leads to an earlier one, the last of which is its first node; the numbers that come of it: no program. Condition: none beyond each theorem's own hypotheses. Rows of structs that make([]T, n) makes: the call's own, all elements zero. Condition: none beyond each theorem's own hypotheses. Graphs: what an edge list is checked for, edges as cells, rows of ints and of structs made, read and stored into. Condition: none beyond each theorem's own hypotheses. Plain facts about a stable sort that sorts blocks by insertion and merges them in place (Go's SortStableFunc): exchanges, rotations, the split of a merge, blocks: no program. Condition: none beyond each theorem's own hypotheses. The comparison of two footpaths that the sort is handed: by from, to, seconds. Condition: none. Two ranges of a row of footpaths exchanged, a row turned about a place (what a stable sort in place goes by). Condition: rows of at most 100000000 elements. Insertion sort over a part of a row of footpaths, by the closure that compares them. Condition: rows of at most 100000000 elements. Two sorted parts of a row of footpaths merged in place where one of them is a single element. Condition: rows of at most 100000000 elements. A row of footpaths and one element behind it merged in place. Condition: rows of at most 100000000 elements. Two sorted parts of a row of footpaths merged in place (SymMerge). Condition: rows of at most 100000000 elements. A stable sort of a row of footpaths (SortStableFunc): the same footpaths, in order, those that the comparison does not part in their old order. Condition: rows of at most 100000000 elements. sortPaths: what the call answers. The three functions that are handed to DeleteFunc and CompactFunc, isUsable, isWalk, isStop: what each answers. Condition: rows of at most 100000000 footpaths. Two footpaths compared as whole structs; the functions that are handed to DeleteFunc and CompactFunc. Condition: none beyond each theorem's own hypotheses. firstError, Check: what each call answers; nothing that existed before the call has changed behind it. Condition: lists of at most 1000000 footpaths, their numbers of 64 bits. The reference's valid and Check: what each call answers; nothing that existed before the call has changed behind it. Condition: lists of at most 1000000 footpaths. A footpath among the arguments. Condition: none beyond each theorem's own hypotheses.
-/
import Derived.Test.YtkhalnjgbdpfhaaGreatDigits
import Derived.Test.YtkhalnjgbdpfhaaGreatShP
import Derived.Test.YtkhalnjgbdpfhaaGreatShA
import Derived.Lib.Hide
import Derived.Lib.QuietBelow
import Derived.Maps.OwnSet
import Derived.WalkArith
import Derived.DeepKeys4
import Derived.Deep.OwnRows
import Derived.StillTailTactics
import Derived.Lib.ItoaNum
import Derived.BigRegion
import Derived.Deep.DeepCutAuto
import Derived.Deep.Strs
import Derived.Lib.SmallJoins
namespace Go.Proofs.YtkhalnjgbdpfhaaGreat.S20
set_option maxRecDepth 100000
open Go

/-- An edge: from, to, length. -/
abbrev Ed := Nat × Nat × Nat
/-- A walk of k edges from a to b, of cost c: each edge costs M times its length, and one. -/
def Wk (M : Nat) (l : List Ed) (b : Nat) : Nat → Nat → Nat → Prop
  | 0, a, c => a = b ∧ c = 0
  | k + 1, a, c => ∃ m w c', (a, m, w) ∈ l ∧ Wk M l b k m c' ∧ c = c' + w * M + 1
theorem Wk.cons {M : Nat} {l : List Ed} {b k a m w c : Nat} (h : (a, m, w) ∈ l) (hw : Wk M l b k m c) : Wk M l b (k + 1) a (c + w * M + 1) := ⟨m, w, c, h, hw, rfl⟩
theorem Wk.app {M : Nat} {l : List Ed} {b x : Nat} : ∀ {k a c : Nat} {k' c' : Nat}, Wk M l x k a c → Wk M l b k' x c' → Wk M l b (k + k') a (c + c')
  | 0, a, c, k', c', ⟨ha, hc⟩, h => by
    subst ha hc
    rw [Nat.zero_add, Nat.zero_add]
    exact h
  | k + 1, a, c, k', c', ⟨m, w, d, he, hw, hc⟩, h => by
    have := Wk.cons he (hw.app h)
    rw [show k + 1 + k' = k + k' + 1 by omega, show c + c' = d + c' + w * M + 1 by omega]
    exact this
/-- The ends of the edges are below n. -/
def Inn (l : List Ed) (n : Nat) : Prop := ∀ e ∈ l, e.1 < n ∧ e.2.1 < n
/-- The least cost of a walk from a to b. -/
def Mn (M : Nat) (l : List Ed) (b a c : Nat) : Prop := (∃ k, Wk M l b k a c) ∧ ∀ k c', Wk M l b k a c' → c ≤ c'
theorem Mn.uniq {M : Nat} {l : List Ed} {b a c c' : Nat} (h : Mn M l b a c) (h' : Mn M l b a c') : c = c' := by
  obtain ⟨k, hk⟩ := h.1
  obtain ⟨k', hk'⟩ := h'.1
  have := h.2 _ _ hk'
  have := h'.2 _ _ hk
  omega
/-! ### The distance -/
/-- A walk of k edges from a to b, of length W. -/
def Wl (l : List Ed) (b : Nat) : Nat → Nat → Nat → Prop
  | 0, a, W => a = b ∧ W = 0
  | k + 1, a, W => ∃ m w V, (a, m, w) ∈ l ∧ Wl l b k m V ∧ W = V + w
theorem Wl.app {l : List Ed} {b x : Nat} : ∀ {k a W k' W' : Nat}, Wl l x k a W → Wl l b k' x W' → Wl l b (k + k') a (W + W')
  | 0, a, W, k', W', ⟨ha, hW⟩, h => by
    subst ha hW
    rw [Nat.zero_add, Nat.zero_add]
    exact h
  | k + 1, a, W, k', W', ⟨m, w, V, he, hw, hW⟩, h => by
    rw [show k + 1 + k' = k + k' + 1 by omega]
    exact ⟨m, w, V + W', he, hw.app h, by omega⟩
/-- The length of a shortest path from a to b. -/
def Dist (l : List Ed) (b a W : Nat) : Prop := (∃ k, Wl l b k a W) ∧ ∀ k V, Wl l b k a V → W ≤ V
theorem Dist.uniq {l : List Ed} {b a W V : Nat} (h : Dist l b a W) (h' : Dist l b a V) : W = V := by
  obtain ⟨k, hk⟩ := h.1
  obtain ⟨k', hk'⟩ := h'.1
  have := h.2 _ _ hk'
  have := h'.2 _ _ hk
  omega
/-! ### The edges turned -/
def turnE (e : Ed) : Ed := (e.2.1, e.1, e.2.2)
def turnL (l : List Ed) : List Ed := l.map turnE
theorem turn_turn (l : List Ed) : turnL (turnL l) = l := by
  unfold turnL
  rw [List.map_map]
  exact (List.map_congr_left (fun x _ => rfl)).trans (List.map_id l)
theorem mem_turn {l : List Ed} {a b w : Nat} (h : (a, b, w) ∈ l) : (b, a, w) ∈ turnL l := List.mem_map.2 ⟨_, h, rfl⟩
theorem Wl.snoc {l : List Ed} {b x w : Nat} {k a W : Nat} (h : Wl l x k a W) (he : (x, b, w) ∈ l) : Wl l b (k + 1) a (W + w) := h.app ⟨b, w, 0, he, ⟨rfl, rfl⟩, (Nat.zero_add _).symm⟩
theorem Wl.turn {l : List Ed} {b : Nat} : ∀ {k a W : Nat}, Wl l b k a W → Wl (turnL l) a k b W
  | 0, _, _, ⟨ha, hW⟩ => ⟨ha.symm, hW⟩
  | k + 1, a, W, ⟨m, w, V, he, hw, hW⟩ => by
    rw [hW]
    exact (hw.turn).snoc (mem_turn he)
theorem Dist.turn {l : List Ed} {a b W : Nat} (h : Dist l b a W) : Dist (turnL l) a b W := by
  obtain ⟨k, hk⟩ := h.1
  refine ⟨⟨k, hk.turn⟩, fun k V hV => ?_⟩
  have := hV.turn
  rw [turn_turn] at this
  exact h.2 _ _ this
theorem Inn.turn {l : List Ed} {n : Nat} (h : Inn l n) : Inn (turnL l) n := by
  intro e he
  obtain ⟨x, hx, rfl⟩ := List.mem_map.1 he
  exact ⟨(h x hx).2, (h x hx).1⟩
end Go.Proofs.YtkhalnjgbdpfhaaGreat.S20
namespace Go.Proofs.YtkhalnjgbdpfhaaGreat.S20
set_option maxRecDepth 100000
open Go

/-! ### Walks through nodes below a bound -/
/-- A walk of m + 1 edges from i to j of length W whose nodes between lie below k. -/
def Wb (l : List Ed) (k j : Nat) : Nat → Nat → Nat → Prop
  | 0, i, W => (i, j, W) ∈ l
  | m + 1, i, W => ∃ x s V, (i, x, s) ∈ l ∧ x < k ∧ Wb l k j m x V ∧ W = V + s
/-- With one node more a walk is one without it, or no shorter than one to it and one from it. -/
theorem Wb.split {l : List Ed} {k j : Nat} : ∀ {m i W : Nat}, Wb l (k + 1) j m i W → (∃ m', Wb l k j m' i W) ∨ ∃ m1 W1 m2 W2, Wb l k k m1 i W1 ∧ Wb l k j m2 k W2 ∧ W1 + W2 ≤ W
  | 0, i, W, h => .inl ⟨0, h⟩
  | m + 1, i, W, ⟨x, s, V, he, hx, hw, hW⟩ => by
    rcases hw.split with ⟨m', h1⟩ | ⟨m1, W1, m2, W2, h1, h2, h3⟩
    · by_cases hk : x = k
      · subst hk
        exact .inr ⟨0, s, m', V, he, h1, by omega⟩
      · exact .inl ⟨m' + 1, x, s, V, he, by omega, h1, hW⟩
    · by_cases hk : x = k
      · subst hk
        exact .inr ⟨0, s, m2, W2, he, h2, by omega⟩
      · exact .inr ⟨m1 + 1, W1 + s, m2, W2, ⟨x, s, W1, he, by omega, h1, rfl⟩, h2, by omega⟩

/-! ### A matrix -/
/-- The entry in row i and column j. -/
def mg (m : List (List Int)) (i j : Nat) : Int := (m.getD i []).getD j 0
/-- The matrix with this entry. -/
def ms (m : List (List Int)) (i j : Nat) (v : Int) : List (List Int) := m.set i ((m.getD i []).set j v)
/-- A matrix of n rows of n entries. -/
def Sq (n : Nat) (m : List (List Int)) : Prop := m.length = n ∧ ∀ (i : Nat) r, m[i]? = some r → r.length = n
section
variable {n : Nat} {m : List (List Int)} {i j : Nat}
theorem sq_row (h : Sq n m) (hi : i < n) : ∃ r, m[i]? = some r ∧ r.length = n ∧ ∀ j, mg m i j = r.getD j 0 := by
  obtain ⟨r, hr⟩ := at_lt (l := m) (k := i) (by rw [h.1]; exact hi)
  refine ⟨r, hr, h.2 i r hr, fun j => ?_⟩
  unfold mg
  rw [List.getD_eq_getElem?_getD (l := m), hr]
  rfl
theorem sq_set (h : Sq n m) (hi : i < n) (v : Int) : Sq n (ms m i j v) := by
  obtain ⟨r, hr, hl, -⟩ := sq_row h hi
  have he : m.getD i [] = r := by rw [List.getD_eq_getElem?_getD, hr]; rfl
  refine ⟨by unfold ms; rw [List.length_set]; exact h.1, fun a q hq => ?_⟩
  unfold ms at hq
  rw [List.getElem?_set] at hq
  split at hq
  · split at hq
    · rw [← Option.some.inj hq, List.length_set, he, hl]
    · cases hq
  · exact h.2 a q hq
theorem mg_set (h : Sq n m) (hi : i < n) (hj : j < n) (v : Int) (a b : Nat) : mg (ms m i j v) a b = if a = i ∧ b = j then v else mg m a b := by
  obtain ⟨r, hr, hl, hg⟩ := sq_row h hi
  have he : m.getD i [] = r := by rw [List.getD_eq_getElem?_getD, hr]; rfl
  unfold mg ms
  rw [he]
  by_cases ha : a = i
  · subst ha
    have e1 : (m.set a (r.set j v)).getD a [] = r.set j v := by rw [List.getD_eq_getElem?_getD, List.getElem?_set_self (by rw [h.1]; exact hi)]; rfl
    rw [e1, he]
    by_cases hb : b = j
    · subst hb
      rw [if_pos ⟨rfl, rfl⟩, List.getD_eq_getElem?_getD, List.getElem?_set_self (by omega)]
      rfl
    · rw [if_neg (fun e => hb e.2), List.getD_eq_getElem?_getD, List.getElem?_set_ne (Ne.symm hb), ← List.getD_eq_getElem?_getD]
  · rw [if_neg (fun e => ha e.1)]
    have e1 : (m.set i (r.set j v)).getD a [] = m.getD a [] := by rw [List.getD_eq_getElem?_getD, List.getElem?_set_ne (Ne.symm ha), ← List.getD_eq_getElem?_getD]
    rw [e1]
end

/-! ### What the matrix tells -/
/-- Where there is no walk. -/
abbrev farN : Int := 1099511627776
/-- In the round of node k, where the pairs P are done: each entry is the length of a walk, or says that there is none; none is greater than a walk through nodes below k, nor for the pairs done than one through nodes up to k. -/
structure FwS (l : List Ed) (n k : Nat) (P : Nat → Nat → Prop) (m : List (List Int)) : Prop where
  sq : Sq n m
  snd : ∀ i j, i < n → j < n → mg m i j = farN ∨ ∃ c W, mg m i j = ((W : Nat) : Int) ∧ Wl l j (c + 1) i W
  top : ∀ i j, i < n → j < n → mg m i j ≤ farN
  low : ∀ i j, i < n → j < n → 0 ≤ mg m i j
  old : ∀ i j c W, i < n → j < n → Wb l k j c i W → (W : Int) ≤ farN → mg m i j ≤ (W : Int)
  new : ∀ i j c W, i < n → j < n → P i j → Wb l (k + 1) j c i W → (W : Int) ≤ farN → mg m i j ≤ (W : Int)
/-- Done in the order of the loops: the rows ahead of i, and in row i the columns ahead of j. -/
def uptoP (i j : Nat) (a b : Nat) : Prop := a < i ∨ a = i ∧ b < j
section
variable {l : List Ed} {n k : Nat} {m : List (List Int)} {i j : Nat}
/-- What a pair's walks over k are no shorter than. -/
theorem FwS.over (h : FwS l n k (uptoP i j) m) (hi : i < n) (hj : j < n) (hk : k < n) {v : Int} (hv1 : v ≤ mg m i j) (hv2 : v ≤ mg m i k + mg m k j) {c W : Nat} (hw : Wb l (k + 1) j c i W) (hf : (W : Int) ≤ farN) : v ≤ (W : Int) := by
  rcases hw.split with ⟨c', h1⟩ | ⟨m1, W1, m2, W2, h1, h2, h3⟩
  · have := h.old i j c' W hi hj h1 hf
    omega
  · have a1 := h.old i k m1 W1 hi hk h1 (by omega)
    have a2 := h.old k j m2 W2 hk hj h2 (by omega)
    omega
theorem FwS.put (h : FwS l n k (uptoP i j) m) (hi : i < n) (hj : j < n) (hk : k < n) (hn : mg m i k + mg m k j < mg m i j) : FwS l n k (uptoP i (j + 1)) (ms m i j (mg m i k + mg m k j)) := by
  have t1 := h.top i j hi hj
  have l1 := h.low i k hi hk
  have l2 := h.low k j hk hj
  have dn : ∀ a b, mg (ms m i j (mg m i k + mg m k j)) a b ≤ mg m a b := by
    intro a b
    rw [mg_set h.sq hi hj]
    split
    · next e =>
      obtain ⟨rfl, rfl⟩ := e
      omega
    · exact Int.le_refl _
  refine ⟨sq_set h.sq hi _, fun a b ha hb => ?_, fun a b ha hb => Int.le_trans (dn a b) (h.top a b ha hb), fun a b ha hb => ?_, fun a b c W ha hb hw hf => Int.le_trans (dn a b) (h.old a b c W ha hb hw hf), fun a b c W ha hb hp hw hf => ?_⟩
  · rw [mg_set h.sq hi hj]
    split
    · next e =>
      obtain ⟨rfl, rfl⟩ := e
      rcases h.snd a k ha hk with e1 | ⟨c1, W1, e1, w1⟩
      · omega
      rcases h.snd k b hk hb with e2 | ⟨c2, W2, e2, w2⟩
      · omega
      refine .inr ⟨c1 + 1 + c2, W1 + W2, by rw [e1, e2]; omega, ?_⟩
      rw [show c1 + 1 + c2 + 1 = (c1 + 1) + (c2 + 1) by omega]
      exact w1.app w2
    · exact h.snd a b ha hb
  · rw [mg_set h.sq hi hj]
    split
    · omega
    · exact h.low a b ha hb
  · by_cases e : a = i ∧ b = j
    · obtain ⟨rfl, rfl⟩ := e
      rw [mg_set h.sq hi hj, if_pos ⟨rfl, rfl⟩]
      exact h.over ha hb hk (Int.le_of_lt hn) (Int.le_refl _) hw hf
    · exact Int.le_trans (dn a b) (h.new a b c W ha hb (by
        rcases hp with h1 | ⟨h1, h2⟩
        · exact .inl h1
        · exact .inr ⟨h1, by omega⟩) hw hf)
end

/-- The edges that have been looked at: each entry is the least of them, or says that there is none. -/
structure FwE (l : List Ed) (n : Nat) (m : List (List Int)) : Prop where
  sq : Sq n m
  snd : ∀ i j, i < n → j < n → mg m i j = farN ∨ ∃ W : Nat, mg m i j = (W : Int) ∧ (i, j, W) ∈ l
  top : ∀ i j, i < n → j < n → mg m i j ≤ farN
  low : ∀ i j, i < n → j < n → 0 ≤ mg m i j
  old : ∀ i j W, i < n → j < n → (i, j, W) ∈ l → mg m i j ≤ (W : Int)
section
variable {l : List Ed} {n : Nat} {m : List (List Int)} {a b s : Nat}
theorem FwE.put (h : FwE l n m) (ha : a < n) (hb : b < n) (hn : (s : Int) < mg m a b) : FwE (l ++ [(a, b, s)]) n (ms m a b (s : Int)) := by
  have dn : ∀ i j, mg (ms m a b (s : Int)) i j ≤ mg m i j := by
    intro i j
    rw [mg_set h.sq ha hb]
    split
    · next e =>
      obtain ⟨rfl, rfl⟩ := e
      omega
    · exact Int.le_refl _
  refine ⟨sq_set h.sq ha _, fun i j hi hj => ?_, fun i j hi hj => Int.le_trans (dn i j) (h.top i j hi hj), fun i j hi hj => ?_, fun i j W hi hj hm => ?_⟩
  · rw [mg_set h.sq ha hb]
    split
    · next e =>
      obtain ⟨rfl, rfl⟩ := e
      exact .inr ⟨s, rfl, List.mem_append_right _ (List.mem_singleton.2 rfl)⟩
    · rcases h.snd i j hi hj with e | ⟨W, e, hW⟩
      · exact .inl e
      · exact .inr ⟨W, e, List.mem_append_left _ hW⟩
  · rw [mg_set h.sq ha hb]
    split
    · omega
    · exact h.low i j hi hj
  · rcases List.mem_append.1 hm with hm | hm
    · exact Int.le_trans (dn i j) (h.old i j W hi hj hm)
    · have e := List.mem_singleton.1 hm
      cases e
      rw [mg_set h.sq ha hb, if_pos ⟨rfl, rfl⟩]
      exact Int.le_refl _
end
end Go.Proofs.YtkhalnjgbdpfhaaGreat.S20
namespace Go.Proofs.YtkhalnjgbdpfhaaGreat.S20
set_option maxRecDepth 100000
open Go

/-! ### Components -/
/-- The edges in both directions. -/
def bothL (l : List Ed) : List Ed := l ++ turnL l
/-- Two nodes are connected. -/
def Cn (l : List Ed) (a b : Nat) : Prop := ∃ k W, Wl (bothL l) b k a W
theorem Cn.refl (l : List Ed) (a : Nat) : Cn l a a := ⟨0, 0, rfl, rfl⟩
theorem Cn.trans {l : List Ed} {a b c : Nat} (h : Cn l a b) (h' : Cn l b c) : Cn l a c := by
  obtain ⟨k, W, hk⟩ := h
  obtain ⟨k', W', hk'⟩ := h'
  exact ⟨_, _, hk.app hk'⟩
theorem mem_both {l : List Ed} {a b w : Nat} (h : (a, b, w) ∈ bothL l) : (b, a, w) ∈ bothL l := by
  unfold bothL at *
  rcases List.mem_append.1 h with h | h
  · exact List.mem_append.2 (Or.inr (mem_turn h))
  · have := mem_turn h
    rw [turn_turn] at this
    exact List.mem_append.2 (Or.inl this)
theorem Wl.back {l : List Ed} {b : Nat} : ∀ {k a W : Nat}, Wl (bothL l) b k a W → Wl (bothL l) a k b W
  | 0, _, _, ⟨ha, hW⟩ => ⟨ha.symm, hW⟩
  | k + 1, a, W, ⟨m, w, V, he, hw, hW⟩ => by
    rw [hW]
    exact (hw.back).snoc (mem_both he)
theorem Cn.symm {l : List Ed} {a b : Nat} (h : Cn l a b) : Cn l b a := by
  obtain ⟨k, W, hk⟩ := h
  exact ⟨k, W, hk.back⟩
theorem Inn.both {l : List Ed} {n : Nat} (h : Inn l n) : Inn (bothL l) n := by
  intro e he
  rcases List.mem_append.1 he with he | he
  · exact h e he
  · exact h.turn e he
/-- The first node that is connected with a. -/
def Fst (l : List Ed) (a f : Nat) : Prop := Cn l a f ∧ ∀ b, Cn l a b → f ≤ b
theorem Fst.uniq {l : List Ed} {a f g : Nat} (h : Fst l a f) (h' : Fst l a g) : f = g := by
  have := h.2 _ h'.1
  have := h'.2 _ h.1
  omega
/-! ### Rounds -/
/-- One edge: both ends get the smaller of their numbers. -/
def lab (f : List Int) (e : Ed) : List Int := if f.getD e.1 0 < f.getD e.2.1 0 then f.set e.2.1 (f.getD e.1 0) else f.set e.1 (f.getD e.2.1 0)
end Go.Proofs.YtkhalnjgbdpfhaaGreat.S20
namespace Go.Proofs.YtkhalnjgbdpfhaaGreat.S20
set_option maxRecDepth 100000
open Go

/-- A footpath: from, to, seconds, whether it is step-free. -/
abbrev Fp := Int × Int × Int × Bool

/-! ### The first footpath that is not valid -/
/-- What no two footpaths may have in common. -/
def kyP (x : Fp) : Int × Int × Bool := (x.1, x.2.1, x.2.2.2)
/-- The error of a footpath behind the earlier ones. -/
def badP (st : Int) (seen : List (Int × Int × Bool)) (x : Fp) : Int :=
  if ¬ (0 ≤ x.1 ∧ x.1 < st) ∨ ¬ (0 ≤ x.2.1 ∧ x.2.1 < st) ∨ x.1 = x.2.1 then 9 else if ¬ (1 ≤ x.2.2.1 ∧ x.2.2.1 ≤ 14400) then 2 else if kyP x ∈ seen then 6 else 0
section
variable {st : Int} {seen : List (Int × Int × Bool)} {x : Fp}
theorem badP_from (h : ¬ (0 ≤ x.1 ∧ x.1 < st)) : badP st seen x = 9 := by unfold badP; rw [if_pos (.inl h)]
theorem badP_to (h : ¬ (0 ≤ x.2.1 ∧ x.2.1 < st)) : badP st seen x = 9 := by unfold badP; rw [if_pos (.inr (.inl h))]
theorem badP_same (h : x.1 = x.2.1) : badP st seen x = 9 := by unfold badP; rw [if_pos (.inr (.inr h))]
theorem badP_range (h1 : 0 ≤ x.1 ∧ x.1 < st) (h2 : 0 ≤ x.2.1 ∧ x.2.1 < st) (h3 : x.1 ≠ x.2.1) (h : ¬ (1 ≤ x.2.2.1 ∧ x.2.2.1 ≤ 14400)) : badP st seen x = 2 := by
  unfold badP
  rw [if_neg (by omega), if_pos h]
theorem badP_twice (h1 : 0 ≤ x.1 ∧ x.1 < st) (h2 : 0 ≤ x.2.1 ∧ x.2.1 < st) (h3 : x.1 ≠ x.2.1) (h4 : 1 ≤ x.2.2.1 ∧ x.2.2.1 ≤ 14400) (h : kyP x ∈ seen) : badP st seen x = 6 := by
  unfold badP
  rw [if_neg (by omega), if_neg (by omega), if_pos h]
theorem badP_ok (h1 : 0 ≤ x.1 ∧ x.1 < st) (h2 : 0 ≤ x.2.1 ∧ x.2.1 < st) (h3 : x.1 ≠ x.2.1) (h4 : 1 ≤ x.2.2.1 ∧ x.2.2.1 ≤ 14400) (h : kyP x ∉ seen) : badP st seen x = 0 := by
  unfold badP
  rw [if_neg (by omega), if_neg (by omega), if_neg h]
end
/-- The first bad one, whatever their number is; what Check answers. -/
def vldP (st : Int) (l : List Fp) : Int × Int := fbF (badP st) kyP [] 0 l
def chkP (st : Int) (l : List Fp) : Int × Int := if 512 < l.length then (0, 5) else vldP st l
theorem chkP_many {st : Int} {l : List Fp} (h : 512 < l.length) : chkP st l = (0, 5) := by unfold chkP; rw [if_pos h]
theorem chkP_few {st : Int} {l : List Fp} (h : ¬ 512 < l.length) : chkP st l = vldP st l := by unfold chkP; rw [if_neg h]
/-! ### The closure -/
section
variable (ta tf : Nat → Nat → Option Nat)
end
section
variable {ta tf : Nat → Nat → Option Nat} {n i j : Nat}
/-! ### The closure is closed -/
section
variable {l : List Fp}
end
end
end Go.Proofs.YtkhalnjgbdpfhaaGreat.S20
namespace Go.Proofs.YtkhalnjgbdpfhaaGreat.S20
set_option maxRecDepth 100000
open Go

section
variable {a b : Int} {sf : Bool} {l : List Fp} {k : Nat} {x : Fp} {q : Option Int}
end
section
variable {out : List Int} {x : Int}
end
/-! ### Times in a closure -/
section
variable {l : List Fp} {n : Nat} {ta tf : Nat → Nat → Option Nat}
end
end Go.Proofs.YtkhalnjgbdpfhaaGreat.S20
namespace Go.Proofs.YtkhalnjgbdpfhaaGreat.S20
set_option maxRecDepth 100000
open Go.RowKit

/-- A footpath as cells. -/
def fe (x : Fp) : List Value := [.int .i64 x.1, .int .i64 x.2.1, .int .i64 x.2.2.1, .bool x.2.2.2]
theorem fe_len (x : Fp) : (fe x).length = 4 := rfl
abbrev LstF := @LstG Fp fe
/-- A row of the call's own whose elements tell footpaths. -/
def fep {α : Type} (pr : α → Fp) (a : α) : List Value := fe (pr a)
abbrev OwnQ {α : Type} (pr : α → Fp) := @OwnG α (fep pr) 53 4
/-- The four cells of a footpath. -/
theorem four_at {w : World} {A : Option Addr} {n c : Nat} {l : List Fp} (h : LstF w (.slice A n c) l) {i : Nat} {a b s : Int} {f : Bool} (hs : l[i]? = some (a, b, s, f)) :
    ∃ k o, A = some ⟨k, o, none⟩ ∧ k < w.heap.size ∧ w.cell? ⟨k, o + i * 4, none⟩ = some (.int .i64 a) ∧ w.cell? ⟨k, o + i * 4 + 1, none⟩ = some (.int .i64 b) ∧ w.cell? ⟨k, o + i * 4 + 2, none⟩ = some (.int .i64 s) ∧ w.cell? ⟨k, o + i * 4 + 3, none⟩ = some (.bool f) := by
  obtain ⟨A', c', hv, _, _, hx⟩ := h
  cases hv
  have hi := (List.getElem?_eq_some_iff.1 hs).1
  obtain ⟨k, f, rfl, hb, hcell⟩ := hx (by omega)
  exact ⟨k, f, rfl, hb, hcell (i * 4) _ (by rw [← Nat.add_zero (i * 4), fl_at fe_len hs 0 (by omega)]; rfl), (hcell (i * 4 + 1) _ (by rw [fl_at fe_len hs 1 (by omega)]; rfl) : _), (hcell (i * 4 + 2) _ (by rw [fl_at fe_len hs 2 (by omega)]; rfl) : _), (hcell (i * 4 + 3) _ (by rw [fl_at fe_len hs 3 (by omega)]; rfl) : _)⟩
/-- A footpath in a box; as a value. -/
abbrev boxF (a b s : Int) (f : Bool) : Obj := .cells #[.int .i64 a, .int .i64 b, .int .i64 s, .bool f] 53 (0, 0)
abbrev fpV (a b s : Int) (f : Bool) : Value := .agg #[.int .i64 a, .int .i64 b, .int .i64 s, .bool f]
theorem row_fp {w : World} {k : Nat} {a b s : Int} {f : Bool} (h : w.heap[k]? = some (boxF a b s f)) :
    w.cell? ⟨k, 0, none⟩ = some (.int .i64 a) ∧ w.cell? ⟨k, 1, none⟩ = some (.int .i64 b) ∧ w.cell? ⟨k, 2, none⟩ = some (.int .i64 s) ∧ w.cell? ⟨k, 3, none⟩ = some (.bool f) :=
  ⟨by rw [cell_of_row _ _ 0 _ _ _ h]; rfl, by rw [cell_of_row _ _ 1 _ _ _ h]; rfl, by rw [cell_of_row _ _ 2 _ _ _ h]; rfl, by rw [cell_of_row _ _ 3 _ _ _ h]; rfl⟩
theorem box_fp {w w7 : World} {a b s : Int} {f : Bool} (h : w.alloc (boxF a b s f) = w7) :
    Below w.heap.size w w7 ∧ w7.cell? ⟨w.heap.size, 0, none⟩ = some (.int .i64 a) ∧ w7.cell? ⟨w.heap.size, 1, none⟩ = some (.int .i64 b) ∧ w7.cell? ⟨w.heap.size, 2, none⟩ = some (.int .i64 s) ∧ w7.cell? ⟨w.heap.size, 3, none⟩ = some (.bool f) ∧ w.heap.size < w7.heap.size ∧ w7.heap[w.heap.size]? = some (boxF a b s f) := by
  subst h
  have c7 := heap_alloc_new w (boxF a b s f)
  obtain ⟨h0, h1, h2, h3⟩ := row_fp c7
  exact ⟨(Below.refl _ _).alloc (Nat.le_refl _) _, h0, h1, h2, h3, by simp, c7⟩

/-! ### An element stored -/
section
variable {α : Type} {pr : α → Fp}
theorem fl_put (l : List α) (i : Nat) (a : α) (hi : i < l.length) : ((((fl (fep pr) l).set (i * 4) (.int .i64 (pr a).1)).set (i * 4 + 1) (.int .i64 (pr a).2.1)).set (i * 4 + 2) (.int .i64 (pr a).2.2.1)).set (i * 4 + 3) (.bool (pr a).2.2.2) = fl (fep pr) (l.set i a) := by
  induction l generalizing i with
  | nil => simp at hi
  | cons b r ih =>
    cases i with
    | zero =>
      rw [fl_cons, List.set_cons_zero, fl_cons]
      rfl
    | succ i =>
      rw [List.set_cons_succ, fl_cons, fl_cons, ← ih i (by simpa using hi)]
      rw [show (i + 1) * 4 = i * 4 + 1 + 1 + 1 + 1 by omega, show i * 4 + 1 + 1 + 1 + 1 + 1 = (i * 4 + 1) + 1 + 1 + 1 + 1 by omega, show i * 4 + 1 + 1 + 1 + 1 + 2 = (i * 4 + 2) + 1 + 1 + 1 + 1 by omega, show i * 4 + 1 + 1 + 1 + 1 + 3 = (i * 4 + 3) + 1 + 1 + 1 + 1 by omega]
      rfl
/-- Four cells stored. -/
def put4 (w : World) (g o : Nat) (x : Fp) : World := (((w.setCell ⟨g, o, none⟩ (.int .i64 x.1)).setCell ⟨g, o + 1, none⟩ (.int .i64 x.2.1)).setCell ⟨g, o + 2, none⟩ (.int .i64 x.2.2.1)).setCell ⟨g, o + 3, none⟩ (.bool x.2.2.2)
theorem OwnQ.put {w : World} {base g c n : Nat} {l : List α} (hl : l.length = n) (h : OwnQ pr w base (.slice (some ⟨g, 0, none⟩) n c) l) {i : Nat} (hi : i < n) (a : α) : OwnQ pr (put4 w g (i * 4) (pr a)) base (.slice (some ⟨g, 0, none⟩) n c) (l.set i a) := by
  subst hl
  have h1 := (World.ownsRow.stored h (i * 4) (.int .i64 (pr a).1)).1
  have h2 := (World.ownsRow.stored h1 (i * 4 + 1) (.int .i64 (pr a).2.1)).1
  have h3 := (World.ownsRow.stored h2 (i * 4 + 2) (.int .i64 (pr a).2.2.1)).1
  have h4 := (World.ownsRow.stored h3 (i * 4 + 3) (.bool (pr a).2.2.2)).1
  rw [fl_put l i a hi] at h4
  show World.ownsRow _ base _ 4 _ (l.set i a).length (fl (fep pr) (l.set i a))
  rw [List.length_set]
  exact h4
end
end Go.Proofs.YtkhalnjgbdpfhaaGreat.S20
namespace Go.Proofs.YtkhalnjgbdpfhaaGreat.S20
set_option maxRecDepth 100000
open Go.RowKit Go.Maps Go.WideMaps

abbrev Dm := DataW Unit
/-- A number of 64 bits. -/
def Ix64 (x : Int) : Prop := -9223372036854775808 ≤ x ∧ x ≤ 9223372036854775807
theorem zbool_fp (w : World) : (zeroValue 4).run Tryz.prog w = .ok (.bool false) w := by kernel_rfl
set_option maxRecDepth 100000 in
theorem pbool_inv {v : Value} {z : Dm × List MemPlace} (h : plainElem Tryz.prog 4 v = some z) : ∃ x, v = .bool x ∧ z = (.lit (.bool x), []) := by
  unfold plainElem at h
  rw [Tryz.underlying4] at h
  cases v <;> simp at h
  exact ⟨_, rfl, h.symm⟩
theorem below_no {w w' : World} (hb : Below w.heap.size w w') : w.grownBy w' none := ⟨hb.os, hb.tape, hb.output, hb.size, fun k hk _ => hb.block k hk⟩
theorem fk_laid : laidOutB Tryz.prog = true := by kernel_rfl
theorem fk_row : (53 : TypeId) < Tryz.prog.types.size := of_decide_eq_true (by kernel_rfl)
theorem fk_wide : (match Tryz.prog.underlying 53 with | some (.array _ _) | some (.struct _) => true | _ => false) = true := by kernel_rfl
theorem fk_cells : Tryz.prog.cellsOf 53 = 4 := by kernel_rfl
theorem fki_cells : Tryz.prog.cellsOf 3 = 1 := by kernel_rfl
theorem fkb_cells : Tryz.prog.cellsOf 4 = 1 := by kernel_rfl
theorem fk_key : Tryz.prog.keyType 53 = true := by kernel_rfl
set_option maxRecDepth 100000 in
theorem fk_law : Keyed Tryz.prog 53 := Keyed.of_law (deep_law_laid fk_laid (m := 4) (by omega) fk_row (by kernel_rfl) fk_wide)
theorem fk_types : ∃ m, Tryz.prog.types.size = m + 1 := by
  cases h : Tryz.prog.types.size with
  | zero => exact absurd (h ▸ fk_row : (_ : Nat) < 0) (Nat.not_lt_zero _)
  | succ m => exact ⟨m, rfl⟩
/-- Both stops are of 64 bits. -/
def Ky64 (p : Int × Int × Bool) : Prop := Ix64 p.1 ∧ Ix64 p.2.1
/-- A footpath without its seconds, as a value, as a key. -/
abbrev kyV (p : Int × Int × Bool) : Value := fpV p.1 p.2.1 0 p.2.2
def kf (p : Int × Int × Bool) : List UInt8 := keyBytes [.int .i64 p.1, .int .i64 p.2.1, .int .i64 0, .bool p.2.2]
theorem key_fp (p : Int × Int × Bool) (h : Ky64 p) : keyOf Tryz.prog 53 (kyV p) = some (.string (kf p)) := by
  have w1 := WalkArith.wf_i64 h.1
  have w2 := WalkArith.wf_i64 h.2
  have w3 := WalkArith.wf_i64 (n := 0) ⟨by decide, by decide⟩
  have hu := Tryz.underlying53
  have hi := Tryz.underlying3
  have hb := Tryz.underlying4
  obtain ⟨m, hm⟩ := fk_types
  unfold keyOf
  simp only [hu]
  rw [if_pos (by simp [fk_key, Value.formed, hu, fk_cells]), hm]
  unfold Program.keyLits
  simp only [hu, Value.cells]
  rw [if_pos ⟨by rw [fk_cells]; rfl, by simp⟩]
  simp [fki_cells, fkb_cells, Program.keyLits, hi, hb, w1, w2, w3, kf]
theorem kf_inj {p q : Int × Int × Bool} (hp : Ky64 p) (hq : Ky64 q) (h : kf p = kf q) : p = q := by
  have h1 := key_fp p hp
  have h2 := key_fp q hq
  rw [← h] at h2
  have := fk_law.inj h1 h2
  simp at this
  exact Prod.ext this.1 (Prod.ext this.2.1 this.2.2)
/-- Block b is a map from these to true. -/
def MapP (w : World) (b : Nat) (ls : List (Int × Int × Bool)) : Prop := (∀ p ∈ ls, Ky64 p) ∧ ∃ D : Dm, w.ownsMap Tryz.prog 53 (plainElem Tryz.prog 4) b ls.length D ∧ IsMap D ∧ (∀ p, Ky64 p → has D (.string (kf p)) = decide (p ∈ ls)) ∧ ∀ p z, p ∈ ls → D.atKey (.string (kf p)) z = .lit (.bool true)
theorem MapP.made (w : World) : MapP (w.alloc (.map #[] 0)) w.heap.size [] := ⟨fun p hp => absurd hp (by simp), .map [], World.ownsMap_made _ _ _ _, isMap_empty, fun x _ => by simp [has_eq], fun x z h => by simp at h⟩
theorem MapP.below {w w' : World} {b : Nat} {ls : List (Int × Int × Bool)} (h : MapP w b ls) (hb : Below w.heap.size w w') : MapP w' b ls := by
  obtain ⟨h0, D, h1, h2⟩ := h
  exact ⟨h0, D, h1.kept (below_no hb) (by simp), h2⟩
theorem MapP.look {w : World} {b : Nat} {ls : List (Int × Int × Bool)} (h : MapP w b ls) (p : Int × Int × Bool) (hp : Ky64 p) :
    (Instr.lookup 167 (.map (some b)) (kyV p) false).run Tryz.prog w = .ok (.bool (decide (p ∈ ls))) w := by
  obtain ⟨h0, D, h1, h2, h3, h4⟩ := h
  obtain ⟨v, ps, hrun, hv⟩ := h1.lookup fk_law Tryz.underlying167 (zbool_fp w) (plainElem_bool Tryz.underlying4 false) (key_fp p hp)
  obtain ⟨c, rfl, hc⟩ := pbool_inv hv
  have hc := congrArg Prod.fst hc
  rw [hrun]
  have : c = decide (p ∈ ls) := by
    by_cases hm : p ∈ ls
    · rw [h4 _ _ hm] at hc
      simp at hc
      simp [hm, ← hc]
    · rw [atKey_of_not_has (by rw [h3 p hp]; exact decide_eq_false hm)] at hc
      simp at hc
      simp [hm, ← hc]
  rw [this]
/-- A store. -/
theorem MapP.update {w : World} {b : Nat} {ls : List (Int × Int × Bool)} (h : MapP w b ls) (p : Int × Int × Bool) (hp : Ky64 p) (hl : ls.length < 1099511627776) :
    ∃ w', (Instr.mapUpdate 167 (.map (some b)) (kyV p) (.bool true)).run Tryz.prog w = .ok () w' ∧ MapP w' b (ls ++ [p]) ∧ w.grownBy w' (some b) := by
  obtain ⟨h0, D, h1, h2, h3, h4⟩ := h
  obtain ⟨w', hrun, g1, g2⟩ := h1.update fk_law Tryz.underlying167 (by unfold maxLen; omega) (key_fp p hp) (plainElem_bool Tryz.underlying4 true)
  refine ⟨w', hrun, ⟨fun q hq => ?_, _, by rw [List.length_append]; exact g1, h2.put _ _, fun q hq => ?_, fun q z hi => ?_⟩, g2⟩
  · rcases List.mem_append.1 hq with hq | hq
    · exact h0 q hq
    · rw [List.mem_singleton.1 hq]; exact hp
  · by_cases hx : q = p
    · subst hx
      rw [has_put_same h2 (by simp [WideAt.IsKeyLit])]
      simp
    · rw [has_put_other (fun e => hx (kf_inj hq hp (by simpa using e))), h3 q hq]
      simp [hx]
  · by_cases hx : q = p
    · subst hx
      rw [atKey_put_same h2 (by simp [WideAt.IsKeyLit])]
    · have hq : q ∈ ls := by simpa [hx] using hi
      rw [atKey_put_other (fun e => hx (kf_inj (h0 q hq) hp (by simpa using e)))]
      exact h4 q z hq
end Go.Proofs.YtkhalnjgbdpfhaaGreat.S20
namespace Go.Proofs.YtkhalnjgbdpfhaaGreat.S20
set_option maxRecDepth 100000
open Go

/-- A cost: the length, the number of edges. -/
abbrev Ct := Int × Int
def key (c : Ct) : Int := 128 * c.1 + c.2
variable {D : List Ed} {n b : Nat} {lab : List Ct} {Q : List (Int × Ct)} {X : List Nat} {T : List Ed} {N : Nat} {K : Int}
end Go.Proofs.YtkhalnjgbdpfhaaGreat.S20
namespace Go.Proofs.YtkhalnjgbdpfhaaGreat.S20
set_option maxRecDepth 100000
open Go

variable {L : List Ed} {n b : Nat} {lab : List Ct}
end Go.Proofs.YtkhalnjgbdpfhaaGreat.S20
namespace Go.Proofs.YtkhalnjgbdpfhaaGreat.S20
set_option maxRecDepth 100000
open Go

/-- From i one comes to the root r. -/
inductive Rt (par : List Int) : Nat → Nat → Prop
  | root {i : Nat} : par.getD i 0 = (i : Int) → Rt par i i
  | step {i p r : Nat} : par.getD i 0 = (p : Int) → p < i → Rt par p r → Rt par i r
variable {par : List Int} {L : List Ed} {n : Nat}
theorem Rt.le {i r : Nat} (h : Rt par i r) : r ≤ i := by
  induction h with
  | root _ => exact Nat.le_refl _
  | step _ h _ ih => omega
theorem Rt.uniq {i r s : Nat} (h : Rt par i r) (h' : Rt par i s) : r = s := by
  induction h with
  | root h =>
    cases h' with
    | root _ => rfl
    | step a b c => omega
  | step h1 h2 h3 ih =>
    cases h' with
    | root a => omega
    | step a b c =>
      rename_i p r p'
      have : p = p' := by omega
      subst this
      exact ih c
/-- The state: each node leads to an earlier one that is connected with it. -/
structure Uf (L : List Ed) (n : Nat) (par : List Int) : Prop where
  len : par.length = n
  low : ∀ i, i < n → ∃ p : Nat, par.getD i 0 = (p : Int) ∧ p ≤ i ∧ Cn L i p
theorem Uf.cn (h : Uf L n par) {i r : Nat} (hr : Rt par i r) : i < n → Cn L i r := by
  induction hr with
  | root _ => intro _; exact Cn.refl _ _
  | step a b c ih =>
    intro hi
    obtain ⟨p, hp, hle, hc⟩ := h.low _ hi
    rw [a] at hp
    have := Int.ofNat.inj hp
    subst this
    exact hc.trans (ih (by omega))
/-- Each edge so far joins nodes of one root. -/
def Jn (par : List Int) (es : List Ed) : Prop := ∀ e ∈ es, ∃ r, Rt par e.1 r ∧ Rt par e.2.1 r
/-- At the end the root is the first node. -/
theorem Uf.fst (h : Uf L n par) (hj : Jn par L) (hl : Inn L n) {i : Nat} (hi : i < n) {r : Nat} (hr : Rt par i r) : Fst L i r := by
  refine ⟨h.cn hr hi, fun b hc => ?_⟩
  -- connected nodes have one root
  have key : ∀ {k a W : Nat}, Wl (bothL L) b k a W → a < n → ∀ {s : Nat}, Rt par a s → Rt par b s := by
    intro k
    induction k with
    | zero => rintro a W ⟨rfl, _⟩ _ s hs; exact hs
    | succ k ih =>
      rintro a W ⟨m, w, V, he, hw, _⟩ ha s hs
      have hin := hl.both _ he
      refine ih hw hin.2 ?_
      rcases List.mem_append.1 he with he | he
      · obtain ⟨q, h1, h2⟩ := hj _ he
        rw [hs.uniq h1]
        exact h2
      · have he' := mem_turn he
        rw [turn_turn] at he'
        obtain ⟨q, h1, h2⟩ := hj _ he'
        rw [hs.uniq h2]
        exact h1
  obtain ⟨k, W, hw⟩ := hc
  exact (key hw hi hr).le
end Go.Proofs.YtkhalnjgbdpfhaaGreat.S20
namespace Go.Proofs.YtkhalnjgbdpfhaaGreat.S20
set_option maxRecDepth 100000
open Go.RowKit

end Go.Proofs.YtkhalnjgbdpfhaaGreat.S20
namespace Go.Proofs.YtkhalnjgbdpfhaaGreat.S20
set_option maxRecDepth 100000
open Go.RowKit

/-! ### What is checked -/
/-- An edge as it comes in. -/
abbrev Er := Int × Int × Int
/-- An edge of a checked graph as it came in. -/
def upE (e : Ed) : Er := ((e.1 : Int), (e.2.1 : Int), (e.2.2 : Int))
/-- What a checked graph is. -/
structure Graph (n : Int) (l : List Er) (N : Nat) (L : List Ed) : Prop where
  n_eq : n = (N : Int)
  le : N ≤ 64
  l_eq : l = L.map upE
  many : L.length ≤ 4096
  inn : Inn L N
  low : ∀ e ∈ L, e.2.2 ≤ 1073741824
theorem Graph.turn {n : Int} {l : List Er} {N : Nat} {L : List Ed} (h : Graph n l N L) : Inn (turnL L) N ∧ ∀ e ∈ turnL L, e.2.2 ≤ 1073741824 := by
  refine ⟨h.inn.turn, fun e he => ?_⟩
  obtain ⟨x, hx, rfl⟩ := List.mem_map.1 he
  exact h.low x hx

end Go.Proofs.YtkhalnjgbdpfhaaGreat.S20
namespace Go.Proofs.YtkhalnjgbdpfhaaGreat.S20
set_option maxRecDepth 100000
open Go

section
variable {α : Type} {cf : α → α → Int} {lt : α → α → Prop}
section
variable {A U C V B : List α} {n i : Nat}
end

/-! ### A merge -/
section
variable {X Y : List α}
end

end
end Go.Proofs.YtkhalnjgbdpfhaaGreat.S20
namespace Go.Proofs.YtkhalnjgbdpfhaaGreat.S20
set_option maxRecDepth 100000
open Go.RowKit

end Go.Proofs.YtkhalnjgbdpfhaaGreat.S20
namespace Go.Proofs.YtkhalnjgbdpfhaaGreat.S20
set_option maxRecDepth 100000
open Go.RowKit

section
variable {α : Type} {pr : α → Fp}
end
end Go.Proofs.YtkhalnjgbdpfhaaGreat.S20
namespace Go.Proofs.YtkhalnjgbdpfhaaGreat.S20
set_option maxRecDepth 100000
open Go.RowKit Go.Sort

end Go.Proofs.YtkhalnjgbdpfhaaGreat.S20
namespace Go.Proofs.YtkhalnjgbdpfhaaGreat.S20
set_option maxRecDepth 100000
open Go.RowKit Go.Sort

end Go.Proofs.YtkhalnjgbdpfhaaGreat.S20
namespace Go.Proofs.YtkhalnjgbdpfhaaGreat.S20
set_option maxRecDepth 100000
open Go.RowKit Go.Sort

end Go.Proofs.YtkhalnjgbdpfhaaGreat.S20
namespace Go.Proofs.YtkhalnjgbdpfhaaGreat.S20
set_option maxRecDepth 100000
open Go.RowKit Go.Sort

end Go.Proofs.YtkhalnjgbdpfhaaGreat.S20
namespace Go.Proofs.YtkhalnjgbdpfhaaGreat.S20
set_option maxRecDepth 100000
open Go.RowKit Go.Sort

end Go.Proofs.YtkhalnjgbdpfhaaGreat.S20
namespace Go.Proofs.YtkhalnjgbdpfhaaGreat.S20
set_option maxRecDepth 100000
open Go.RowKit Go.Sort

/-! ### The small functions -/
theorem iswalk_any (n : Int) (w : World) : Calls Tryz.prog 127 #[.int .i64 n] w fun e w' => e = .returned (.bool (decide (1 ≤ n ∧ n ≤ 14400))) ∧ w = w' := by
  by_cases h1 : 1 ≤ n
  · by_cases h2 : n ≤ 14400
    · have E := Lib.hid (decide_eq_true (p := 1 ≤ n ∧ n ≤ 14400) ⟨h1, h2⟩)
      go_enter Tryz.func127, Tryz.ntmps127
      go_wp2_with fail
      go_ret
      exact ⟨ret_bool E.out.symm, rfl⟩
    · have E := Lib.hid (decide_eq_false (p := 1 ≤ n ∧ n ≤ 14400) (fun h => h2 h.2))
      have d2 : decide (n ≤ 14400) = false := decide_eq_false h2
      clear h2
      go_enter Tryz.func127, Tryz.ntmps127
      go_wp2_with fail
      go_ret
      exact ⟨ret_bool E.out.symm, rfl⟩
  · have E := Lib.hid (decide_eq_false (p := 1 ≤ n ∧ n ≤ 14400) (fun h => h1 h.1))
    have d1 : decide (1 ≤ n) = false := decide_eq_false h1
    clear h1
    go_enter Tryz.func127, Tryz.ntmps127
    go_wp2_with fail
    go_ret
    exact ⟨ret_bool E.out.symm, rfl⟩
theorem isstop_any (a n : Int) (w : World) : Calls Tryz.prog 126 #[.int .i64 a, .int .i64 n] w fun e w' => e = .returned (.bool (decide (0 ≤ a ∧ a < n))) ∧ w = w' := by
  by_cases h1 : 0 ≤ a
  · by_cases h2 : a < n
    · have E := Lib.hid (decide_eq_true (p := 0 ≤ a ∧ a < n) ⟨h1, h2⟩)
      go_enter Tryz.func126, Tryz.ntmps126
      go_wp2_with fail
      go_ret
      exact ⟨ret_bool E.out.symm, rfl⟩
    · have E := Lib.hid (decide_eq_false (p := 0 ≤ a ∧ a < n) (fun h => h2 h.2))
      have d2 : decide (a < n) = false := decide_eq_false h2
      clear h2
      go_enter Tryz.func126, Tryz.ntmps126
      go_wp2_with fail
      go_ret
      exact ⟨ret_bool E.out.symm, rfl⟩
  · have E := Lib.hid (decide_eq_false (p := 0 ≤ a ∧ a < n) (fun h => h1 h.1))
    have d1 : decide (0 ≤ a) = false := decide_eq_false h1
    clear h1
    go_enter Tryz.func126, Tryz.ntmps126
    go_wp2_with fail
    go_ret
    exact ⟨ret_bool E.out.symm, rfl⟩
end Go.Proofs.YtkhalnjgbdpfhaaGreat.S20
namespace Go.Proofs.YtkhalnjgbdpfhaaGreat.S20
set_option maxRecDepth 100000
open Go.RowKit Go.Sort

theorem set_cell_same {w : World} {b i : Nat} {v : Value} {cs : Array Value} {T : TypeId} {fr : Nat × Nat} (h : w.heap[b]? = some (.cells cs T fr)) (hc : cs.setIfInBounds i v = cs) : w.setCell ⟨b, i, none⟩ v = w := by
  unfold World.setCell
  cases w with
  | mk hp tape drawn os out =>
    simp only at h ⊢
    congr 1
    refine Array.ext_getElem? fun j => ?_
    rw [Array.getElem?_modify]
    split
    · next e =>
      subst e
      rw [h]
      simp [hc]
    · rfl
theorem box_last {w w7 : World} {a b s : Int} {f : Bool} (h : w.alloc (boxF a b s f) = w7) : w7.frozen? ⟨w.heap.size, 3, none⟩ = false ∧ w7.setCell ⟨w.heap.size, 3, none⟩ (.bool f) = w7 := by
  subst h
  exact ⟨frozen_of_row _ _ 3 _ _ (heap_alloc_new _ _), set_cell_same (heap_alloc_new _ _) rfl⟩
end Go.Proofs.YtkhalnjgbdpfhaaGreat.S20
namespace Go.Proofs.YtkhalnjgbdpfhaaGreat.S20
set_option maxRecDepth 100000
open Go.RowKit Go.Sort

/-- The footpaths' stops are numbers of 64 bits. -/
def L64 (l : List Fp) : Prop := ∀ x ∈ l, Ky64 (kyP x)
theorem ret_q {q : Int × Int} {a b : Int} (h : q = (a, b)) : Ending.returned (.tuple #[.int .i64 a, .int .i64 b]) = Ending.returned (.tuple #[.int .i64 q.1, .int .i64 q.2]) := by rw [h]
/-- A footpath in a box, one without its seconds in another. -/
theorem two_fp {w w7 w8 w9 : World} {a b s : Int} {f : Bool} (h7 : w.alloc (boxF a b s f) = w7) (h8 : w7.alloc (boxF a b s f) = w8) (h9 : w8.setCell ⟨w7.heap.size, 2, none⟩ (.int .i64 0) = w9) :
    (w8.cell? ⟨w7.heap.size, 2, none⟩ = some (.int .i64 s) ∧ w8.frozen? ⟨w7.heap.size, 2, none⟩ = false) ∧ w9.heap[w.heap.size]? = some (boxF a b s f) ∧ w9.heap[w7.heap.size]? = some (boxF a b 0 f) ∧ RowKit.Below w.heap.size w w9 ∧ w.heap.size < w7.heap.size := by
  obtain ⟨b7, -, -, -, -, s7, c7⟩ := box_fp h7
  obtain ⟨b8, -, -, q2, -, s8, c8⟩ := box_fp h8
  refine ⟨⟨q2, frozen_of_row _ _ 2 _ _ c8⟩, ?_, ?_, ?_, s7⟩
  · rw [← h9, RowKit.Below.heap_setCell _ _ _ _ (by show w.heap.size ≠ w7.heap.size; omega)]
    exact (b8.block _ s7).trans c7
  · rw [← h9]
    unfold World.setCell
    rw [Array.getElem?_modify, if_pos rfl, c8]
    rfl
  · rw [← h9]
    exact (b7.trans (b8.mono b7.size)).setCell b7.size _
set_option maxRecDepth 100000 in
set_option maxHeartbeats 4000000 in
theorem kfe_any (v : Value) (l : List Fp) (hl : l.length ≤ 1000000) (st : Int) (h64 : L64 l) (w : World) (h : LstF w v l) : Calls Tryz.prog 88 #[v, .int .i64 st] w fun e w' => e = .returned (.tuple #[.int .i64 ((vldP st l).1), .int .i64 ((vldP st l).2)]) ∧ Below w.heap.size w w' := by
  have hh := h
  obtain ⟨A, c, rfl, -⟩ := hh
  have H := Lib.hid h
  have H64 := Lib.hid h64
  obtain ⟨q, hq⟩ : ∃ q, vldP st l = q := ⟨_, rfl⟩
  rw [hq]
  obtain ⟨w1, hw1⟩ : ∃ W, w.alloc (.map #[] 0) = W := ⟨_, rfl⟩
  have b1 : RowKit.Below w.heap.size w w1 := by rw [← hw1]; exact (RowKit.Below.refl _ _).alloc (Nat.le_refl _) _
  have M1 : Hid (MapP w1 w.heap.size ((l.take 0).map kyP)) := by rw [← hw1]; exact MapP.made w
  have B1 := Lib.hid b1
  have Q1 : Hid (q = fbF (badP st) kyP ((l.take 0).map kyP) 0 (l.drop 0)) := Lib.hid hq.symm
  have hmm := @run_makeMap Tryz.prog
  clear h h64 hq b1
  go_enter Tryz.func88, Tryz.ntmps88
  go_wp2_with fail
  clear hmm
  go_loopw [13] (fun i wr => ∃ k : Nat, i = .int .i64 (k : Int) ∧ k ≤ l.length ∧ Hid (q = fbF (badP st) kyP ((l.take k).map kyP) k (l.drop k)) ∧ Hid (MapP wr w.heap.size ((l.take k).map kyP)) ∧ Hid (RowKit.Below w.heap.size w wr)) (fun i _ => l.length - (intOf i).toNat)
  case atStart => exact ⟨0, rfl, Nat.zero_le _, Q1, M1, B1⟩
  case round =>
    clear Q1 M1 B1 hw1
    obtain ⟨k, rfl, hk, HQ, HM, HB⟩ := hrel
    by_cases hlt : k < l.length
    · obtain ⟨⟨a, b, s, f⟩, hx⟩ := at_lt hlt
      obtain ⟨b', o, rfl, hb, m0, m1, m2, m3⟩ := four_at (H.out.below HB.out) hx
      have gk : (k : Int) < (l.length : Int) := by omega
      obtain ⟨w7, hw7⟩ : ∃ W, wr.alloc (boxF a b s f) = W := ⟨_, rfl⟩
      obtain ⟨w8, hw8⟩ : ∃ W, w7.alloc (boxF a b s f) = W := ⟨_, rfl⟩
      obtain ⟨w9, hw9⟩ : ∃ W, w8.setCell ⟨w7.heap.size, 2, none⟩ (.int .i64 0) = W := ⟨_, rfl⟩
      obtain ⟨⟨r2, r2f⟩, c9, d9, b9, z7⟩ := two_fp hw7 hw8 hw9
      have hb7 := box_fp hw7
      have hb8 := box_fp hw8
      obtain ⟨y0, y1⟩ := box_last hw7
      obtain ⟨x0, x1⟩ := box_last hw8
      have e0 := (hb8.1.cell (p := ⟨wr.heap.size, 0, none⟩) (by show wr.heap.size < _; omega)).trans hb7.2.1
      have e1 := (hb8.1.cell (p := ⟨wr.heap.size, 1, none⟩) (by show wr.heap.size < _; omega)).trans hb7.2.2.1
      have e2 := (hb8.1.cell (p := ⟨wr.heap.size, 2, none⟩) (by show wr.heap.size < _; omega)).trans hb7.2.2.2.1
      have e3 := (hb8.1.cell (p := ⟨wr.heap.size, 3, none⟩) (by show wr.heap.size < _; omega)).trans hb7.2.2.2.2.1
      obtain ⟨-, t0, t1, t2, t3, -, -⟩ := hb7
      obtain ⟨p0, p1, p2, p3⟩ := row_fp c9
      obtain ⟨q0, q1, q2, q3⟩ := row_fp d9
      have B9 := Lib.hid (HB.out.trans (b9.mono HB.out.size))
      have M9 := Lib.hid (HM.out.below b9)
      have hky : Ky64 (a, b, f) := H64.out _ (List.mem_iff_getElem?.2 ⟨k, hx⟩)
      have IA := Lib.hid (fun W => isstop_any a st W)
      have IB := Lib.hid (fun W => isstop_any b st W)
      have IS := Lib.hid (fun W => iswalk_any s W)
      clear hb hb8 b9 c9 d9 HB HM z7
      -- the cases
      by_cases h1 : ¬ (0 ≤ a ∧ a < st)
      · rw [decide_eq_false h1] at IA
        have R := Lib.hid (fb_stop HQ.out hx (badP_from (x := (a, b, s, f)) h1) (by decide))
        clear HQ hx
        go_wp2_with fail
        refine (IA.out _).mono ?_
        rintro e w' ⟨rfl, rfl⟩
        go_wp2_with fail
        go_ret2
        exact ⟨ret_q R.out, B9.out⟩
      have h1 := Decidable.not_not.1 h1
      rw [decide_eq_true h1] at IA
      by_cases h2 : ¬ (0 ≤ b ∧ b < st)
      · rw [decide_eq_false h2] at IB
        have R := Lib.hid (fb_stop HQ.out hx (badP_to (x := (a, b, s, f)) h2) (by decide))
        clear HQ hx
        go_wp2_with fail
        refine (IA.out _).mono ?_
        rintro e w' ⟨rfl, rfl⟩
        go_wp2_with fail
        refine (IB.out _).mono ?_
        rintro e w' ⟨rfl, rfl⟩
        go_wp2_with fail
        go_ret2
        exact ⟨ret_q R.out, B9.out⟩
      have h2 := Decidable.not_not.1 h2
      rw [decide_eq_true h2] at IB
      by_cases h3 : a = b
      · have g := beq_true h3
        have R := Lib.hid (fb_stop HQ.out hx (badP_same (x := (a, b, s, f)) h3) (by decide))
        clear HQ hx h3
        go_wp2_with fail
        refine (IA.out _).mono ?_
        rintro e w' ⟨rfl, rfl⟩
        go_wp2_with fail
        refine (IB.out _).mono ?_
        rintro e w' ⟨rfl, rfl⟩
        go_wp2_with fail
        go_ret2
        exact ⟨ret_q R.out, B9.out⟩
      have g := beq_false h3
      by_cases h4 : ¬ (1 ≤ s ∧ s ≤ 14400)
      · rw [decide_eq_false h4] at IS
        have R := Lib.hid (fb_stop HQ.out hx (badP_range (x := (a, b, s, f)) h1 h2 h3 h4) (by decide))
        clear HQ hx
        go_wp2_with fail
        refine (IA.out _).mono ?_
        rintro e w' ⟨rfl, rfl⟩
        go_wp2_with fail
        refine (IB.out _).mono ?_
        rintro e w' ⟨rfl, rfl⟩
        go_wp2_with fail
        refine (IS.out _).mono ?_
        rintro e w' ⟨rfl, rfl⟩
        go_wp2_with fail
        go_ret2
        exact ⟨ret_q R.out, B9.out⟩
      have h4 := Decidable.not_not.1 h4
      rw [decide_eq_true h4] at IS
      have lk := M9.out.look (a, b, f) hky
      by_cases h5 : kyP (a, b, s, f) ∈ (l.take k).map kyP
      · have lk' := lk.trans (by rw [decide_eq_true (show (a, b, f) ∈ (l.take k).map kyP from h5)])
        clear lk
        have R := Lib.hid (fb_stop HQ.out hx (badP_twice (x := (a, b, s, f)) h1 h2 h3 h4 h5) (by decide))
        clear HQ hx
        go_wp2_with fail
        refine (IA.out _).mono ?_
        rintro e w' ⟨rfl, rfl⟩
        go_wp2_with fail
        refine (IB.out _).mono ?_
        rintro e w' ⟨rfl, rfl⟩
        go_wp2_with fail
        refine (IS.out _).mono ?_
        rintro e w' ⟨rfl, rfl⟩
        go_wp2_with fail
        go_ret2
        exact ⟨ret_q R.out, B9.out⟩
      have lk' := lk.trans (by rw [decide_eq_false (show (a, b, f) ∉ (l.take k).map kyP from h5)])
      clear lk
      obtain ⟨w10, hrun, m10, g10⟩ := M9.out.update (a, b, f) hky (by rw [List.length_map, List.length_take]; omega)
      have N := Lib.hid (fb_next HQ.out hx (badP_ok (x := (a, b, s, f)) h1 h2 h3 h4 h5))
      have M10 : Hid (MapP w10 w.heap.size ((l.take (k + 1)).map kyP)) := by
        show MapP _ _ _
        rw [take_at l k _ hx, List.map_append]
        exact m10
      have B10 : Hid (RowKit.Below w.heap.size w w10) := B9.out.grown g10 B9.out.size (fun j hj => by cases hj; exact Nat.le_refl _)
      clear HQ hx h5 m10 g10
      go_wp2_with fail
      refine (IA.out _).mono ?_
      rintro e w' ⟨rfl, rfl⟩
      go_wp2_with fail
      refine (IB.out _).mono ?_
      rintro e w' ⟨rfl, rfl⟩
      go_wp2_with fail
      refine (IS.out _).mono ?_
      rintro e w' ⟨rfl, rfl⟩
      go_wp2_with fail
      go_roundw
      case rel => exact ⟨k + 1, by go_num, by omega, N, M10, B10⟩
      case measure => simp [intOf]; omega
    · have R : Hid (q = (0, 0)) := fb_done HQ.out (by omega)
      have d : decide (k < l.length) = false := by rw [decide_eq_false_iff_not]; exact hlt
      clear hlt HQ HM
      go_wp2_with fail
      go_ret2
      exact ⟨ret_q R.out, HB.out⟩
set_option maxHeartbeats 1000000 in
theorem kchk_any (v : Value) (l : List Fp) (hl : l.length ≤ 1000000) (st : Int) (h64 : L64 l) (w : World) (h : LstF w v l) : Calls Tryz.prog 58 #[v, .int .i64 st] w fun e w' => e = .returned (.tuple #[.int .i64 ((chkP st l).1), .int .i64 ((chkP st l).2)]) ∧ Below w.heap.size w w' := by
  have C := Lib.hid (kfe_any v l hl st h64 w h)
  obtain ⟨A, c, rfl, -⟩ := h
  by_cases hm : 512 < l.length
  · have g : (512 : Int) < (l.length : Int) := by omega
    rw [chkP_many hm]
    clear hm C
    go_enter Tryz.func58, Tryz.ntmps58
    go_wp2_with fail
    go_ret2
    exact ⟨rfl, RowKit.Below.refl _ _⟩
  · have g : decide ((512 : Int) < (l.length : Int)) = false := decide_eq_false (by omega)
    rw [chkP_few hm]
    clear hm
    go_enter Tryz.func58, Tryz.ntmps58
    go_wp2_with fail
    refine C.out.mono ?_
    rintro e w1 ⟨rfl, b1⟩
    have B1 := Lib.hid b1
    clear b1 C
    go_wp2_with fail
    go_ret2
    exact ⟨rfl, B1.out⟩
end Go.Proofs.YtkhalnjgbdpfhaaGreat.S20
namespace Go.Proofs.YtkhalnjgbdpfhaaGreat.S20
set_option maxRecDepth 100000
open Go.RowKit Go.Sort

theorem bool_beq {a b : Bool} {c : Bool} (h : decide (a = b) = c) : (a == b) = c := by cases a <;> cases b <;> cases c <;> simp_all
set_option maxRecDepth 100000 in
set_option maxHeartbeats 4000000 in
theorem rval_any (v : Value) (l : List Fp) (hl : l.length ≤ 1000000) (st : Int) (w : World) (h : LstF w v l) : Calls Tryz.prog 104 #[v, .int .i64 st] w fun e w' => e = .returned (.tuple #[.int .i64 ((vldP st l).1), .int .i64 ((vldP st l).2)]) ∧ Below w.heap.size w w' := by
  have hh := h
  obtain ⟨A, c, rfl, -⟩ := hh
  have H := Lib.hid h
  obtain ⟨q, hq⟩ : ∃ q, vldP st l = q := ⟨_, rfl⟩
  rw [hq]
  have Q1 : Hid (q = fbF (badP st) kyP ((l.take 0).map kyP) 0 (l.drop 0)) := Lib.hid hq.symm
  clear h hq
  go_enter Tryz.func104, Tryz.ntmps104
  go_wp2_with fail
  go_loopw [6] (fun i wr => ∃ k : Nat, i = .int .i64 (k : Int) ∧ k ≤ l.length ∧ Hid (q = fbF (badP st) kyP ((l.take k).map kyP) k (l.drop k)) ∧ Hid (RowKit.Below w.heap.size w wr)) (fun i _ => l.length - (intOf i).toNat)
  case atStart => exact ⟨0, rfl, Nat.zero_le _, Q1, Lib.hid (RowKit.Below.refl _ _)⟩
  case round =>
    clear Q1
    obtain ⟨k, rfl, hk, HQ, HB⟩ := hrel
    by_cases hlt : k < l.length
    · obtain ⟨⟨a, b, s, f⟩, hx⟩ := at_lt hlt
      obtain ⟨b', o, rfl, hb, m0, m1, m2, m3⟩ := four_at (H.out.below HB.out) hx
      have gk : (k : Int) < (l.length : Int) := by omega
      obtain ⟨w7, hw7⟩ : ∃ W, wr.alloc (boxF a b s f) = W := ⟨_, rfl⟩
      obtain ⟨b7, p0, p1, p2, p3, s7, c7⟩ := box_fp hw7
      obtain ⟨y0, y1⟩ := box_last hw7
      have B7 := Lib.hid (HB.out.trans (b7.mono HB.out.size))
      have S7 := Lib.hid s7
      have C7 := Lib.hid c7
      have HK := Lib.hid hk
      clear hb b7 c7 s7 HB
      by_cases h1 : a < 0
      · have R := Lib.hid (fb_stop HQ.out hx (badP_from (x := (a, b, s, f)) (by dsimp only; omega)) (by decide))
        clear HQ hx
        go_wp2_with fail
        go_ret2
        exact ⟨ret_q R.out, B7.out⟩
      have d1 : decide (a < 0) = false := decide_eq_false h1
      by_cases h2 : st ≤ a
      · have R := Lib.hid (fb_stop HQ.out hx (badP_from (x := (a, b, s, f)) (by dsimp only; omega)) (by decide))
        clear HQ hx h1
        go_wp2_with fail
        go_ret2
        exact ⟨ret_q R.out, B7.out⟩
      have d2 : decide (st ≤ a) = false := decide_eq_false h2
      by_cases h3 : b < 0
      · have R := Lib.hid (fb_stop HQ.out hx (badP_to (x := (a, b, s, f)) (by dsimp only; omega)) (by decide))
        clear HQ hx h1 h2
        go_wp2_with fail
        go_ret2
        exact ⟨ret_q R.out, B7.out⟩
      have d3 : decide (b < 0) = false := decide_eq_false h3
      by_cases h4 : st ≤ b
      · have R := Lib.hid (fb_stop HQ.out hx (badP_to (x := (a, b, s, f)) (by dsimp only; omega)) (by decide))
        clear HQ hx h1 h2 h3
        go_wp2_with fail
        go_ret2
        exact ⟨ret_q R.out, B7.out⟩
      have d4 : decide (st ≤ b) = false := decide_eq_false h4
      by_cases h5 : a = b
      · have g := beq_true h5
        have R := Lib.hid (fb_stop HQ.out hx (badP_same (x := (a, b, s, f)) h5) (by decide))
        clear HQ hx h1 h2 h3 h4 h5
        go_wp2_with fail
        go_ret2
        exact ⟨ret_q R.out, B7.out⟩
      have g5 := beq_false h5
      by_cases h6 : s < 1
      · have R := Lib.hid (fb_stop HQ.out hx (badP_range (x := (a, b, s, f)) (by dsimp only; omega) (by dsimp only; omega) h5 (by dsimp only; omega)) (by decide))
        clear HQ hx h1 h2 h3 h4
        go_wp2_with fail
        go_ret2
        exact ⟨ret_q R.out, B7.out⟩
      have d6 : decide (s < 1) = false := decide_eq_false h6
      by_cases h7 : 14400 < s
      · have R := Lib.hid (fb_stop HQ.out hx (badP_range (x := (a, b, s, f)) (by dsimp only; omega) (by dsimp only; omega) h5 (by dsimp only; omega)) (by decide))
        clear HQ hx h1 h2 h3 h4 h6
        go_wp2_with fail
        go_ret2
        exact ⟨ret_q R.out, B7.out⟩
      have d7 : decide (14400 < s) = false := decide_eq_false h7
      have OK : Hid (kyP (a, b, s, f) ∉ (l.take k).map kyP → badP st ((l.take k).map kyP) (a, b, s, f) = 0) := fun hn => badP_ok (x := (a, b, s, f)) (by dsimp only; omega) (by dsimp only; omega) h5 (by dsimp only; omega) hn
      have TW : Hid (kyP (a, b, s, f) ∈ (l.take k).map kyP → badP st ((l.take k).map kyP) (a, b, s, f) = 6) := fun hn => badP_twice (x := (a, b, s, f)) (by dsimp only; omega) (by dsimp only; omega) h5 (by dsimp only; omega) hn
      have HX := Lib.hid hx
      clear hx h1 h2 h3 h4 h5 h6 h7
      go_wp2_with fail
      clear d1 d2 d3 d4 g5 d6 d7 hw7 y0 y1
      go_loopw [8] (fun j wx => ∃ i : Nat, j = .int .i64 (i : Int) ∧ i ≤ k ∧ Hid (∀ (e : Nat) y, e < i → l[e]? = some y → kyP y ≠ (a, b, f)) ∧ Hid (RowKit.Below w7.heap.size w7 wx)) (fun j _ => k - (intOf j).toNat)
      case atStart => exact ⟨0, rfl, Nat.zero_le _, Lib.hid (fun e y he => absurd he (Nat.not_lt_zero _)), Lib.hid (RowKit.Below.refl _ _)⟩
      case round =>
        clear m0 m1 m2 m3 p0 p1 p2 p3
        obtain ⟨i, rfl, hi, HN, HB⟩ := hrel
        have BB := Lib.hid (B7.out.trans (HB.out.mono B7.out.size))
        by_cases hik : i < k
        · obtain ⟨⟨a', bb, s', f'⟩, hy⟩ := at_lt (show i < l.length by omega)
          obtain ⟨b2, o2, hA, hb2, n0, n1, n2, n3⟩ := four_at (H.out.below BB.out) hy
          obtain ⟨rfl, rfl⟩ : b' = b2 ∧ o = o2 := by cases hA; exact ⟨rfl, rfl⟩
          obtain ⟨p0, p1, p2, p3⟩ := row_fp ((HB.out.block _ S7.out).trans C7.out)
          have gi : (i : Int) < (k : Int) := by omega
          have gi' : (i : Int) < (l.length : Int) := by omega
          clear hA hb2
          by_cases e1 : a' = a
          · have t1 := beq_true e1
            by_cases e2 : bb = b
            · have t2 := beq_true e2
              by_cases e3 : f' = f
              · have t3 := bool_beq (decide_eq_true e3)
                have R := Lib.hid (fb_stop HQ.out HX.out (TW.out (List.mem_map.2 ⟨(a', bb, s', f'), List.mem_iff_getElem?.2 ⟨i, by rw [List.getElem?_take, if_pos hik]; exact hy⟩, by show (a', bb, f') = (a, b, f); rw [e1, e2, e3]⟩)) (by decide))
                clear HN hy e1 e2 e3
                go_wp2_with fail
                go_quiet (fail)
                have BQ := Lib.hid (below_drewN BB.out nq)
                generalize wr.drewN nq = w2 at BQ ⊢
                clear HB BB n0 n1 n2 n3 p0 p1 p2 p3
                go_wp2_with fail
                go_ret2
                exact ⟨ret_q R.out, BQ.out⟩
              · have t3 := bool_beq (decide_eq_false e3)
                have N : Hid (∀ (e : Nat) y, e < i + 1 → l[e]? = some y → kyP y ≠ (a, b, f)) := by
                  intro e y he hey
                  by_cases h0 : e = i
                  · subst h0
                    rw [hy] at hey
                    cases hey
                    exact fun e => e3 (congrArg (fun z : Int × Int × Bool => z.2.2) e)
                  · exact HN.out e y (by omega) hey
                clear HN hy e1 e2 e3
                go_wp2_with fail
                go_quiet (fail)
                have BQ := Lib.hid (below_drewN HB.out nq)
                generalize wr.drewN nq = w2 at BQ ⊢
                clear HB BB n0 n1 n2 n3 p0 p1 p2 p3
                go_wp2_with fail
                go_roundw
                case rel => exact ⟨i + 1, by go_num, by omega, N, BQ⟩
                case measure => simp [intOf]; omega
            · have t2 := beq_false e2
              have N : Hid (∀ (e : Nat) y, e < i + 1 → l[e]? = some y → kyP y ≠ (a, b, f)) := by
                intro e y he hey
                by_cases h0 : e = i
                · subst h0
                  rw [hy] at hey
                  cases hey
                  exact fun e => e2 (congrArg (fun z : Int × Int × Bool => z.2.1) e)
                · exact HN.out e y (by omega) hey
              clear HN hy e1 e2
              go_wp2_with fail
              go_quiet (fail)
              have BQ := Lib.hid (below_drewN HB.out nq)
              generalize wr.drewN nq = w2 at BQ ⊢
              clear HB BB n0 n1 n2 n3 p0 p1 p2 p3
              go_wp2_with fail
              go_roundw
              case rel => exact ⟨i + 1, by go_num, by omega, N, BQ⟩
              case measure => simp [intOf]; omega
          · have t1 := beq_false e1
            have N : Hid (∀ (e : Nat) y, e < i + 1 → l[e]? = some y → kyP y ≠ (a, b, f)) := by
              intro e y he hey
              by_cases h0 : e = i
              · subst h0
                rw [hy] at hey
                cases hey
                exact fun e => e1 (congrArg (fun z : Int × Int × Bool => z.1) e)
              · exact HN.out e y (by omega) hey
            clear HN hy e1
            go_wp2_with fail
            go_quiet (fail)
            have BQ := Lib.hid (below_drewN HB.out nq)
            generalize wr.drewN nq = w2 at BQ ⊢
            clear HB BB n0 n1 n2 n3 p0 p1 p2 p3
            go_wp2_with fail
            go_roundw
            case rel => exact ⟨i + 1, by go_num, by omega, N, BQ⟩
            case measure => simp [intOf]; omega
        · have d : decide (i < k) = false := by rw [decide_eq_false_iff_not]; exact hik
          have N := Lib.hid (fb_next HQ.out HX.out (OK.out (fun hm => by
            obtain ⟨y, hy, e⟩ := List.mem_map.1 hm
            obtain ⟨j, hj⟩ := List.mem_iff_getElem?.1 hy
            rw [List.getElem?_take] at hj
            split at hj
            · exact HN.out j y (by omega) hj e
            · cases hj)))
          clear hik HN HB
          go_wp2_with fail
          go_roundw
          case rel => exact ⟨k + 1, by go_num, by omega, N, BB⟩
          case measure => simp [intOf]; omega
    · have R : Hid (q = (0, 0)) := fb_done HQ.out (by omega)
      have d : decide (k < l.length) = false := by rw [decide_eq_false_iff_not]; exact hlt
      clear hlt HQ
      go_wp2_with fail
      go_ret2
      exact ⟨ret_q R.out, HB.out⟩
set_option maxHeartbeats 1000000 in
theorem rchk_any (v : Value) (l : List Fp) (hl : l.length ≤ 1000000) (st : Int) (w : World) (h : LstF w v l) : Calls Tryz.prog 69 #[v, .int .i64 st] w fun e w' => e = .returned (.tuple #[.int .i64 ((chkP st l).1), .int .i64 ((chkP st l).2)]) ∧ Below w.heap.size w w' := by
  have C := Lib.hid (rval_any v l hl st w h)
  obtain ⟨A, c, rfl, -⟩ := h
  by_cases hm : 512 < l.length
  · have g : (512 : Int) < (l.length : Int) := by omega
    rw [chkP_many hm]
    clear hm C
    go_enter Tryz.func69, Tryz.ntmps69
    go_wp2_with fail
    go_ret2
    exact ⟨rfl, RowKit.Below.refl _ _⟩
  · have g : decide ((512 : Int) < (l.length : Int)) = false := decide_eq_false (by omega)
    rw [chkP_few hm]
    clear hm
    go_enter Tryz.func69, Tryz.ntmps69
    go_wp2_with fail
    refine C.out.mono ?_
    rintro e w1 ⟨rfl, b1⟩
    have B1 := Lib.hid b1
    clear b1 C
    go_wp2_with fail
    go_ret2
    exact ⟨rfl, B1.out⟩
end Go.Proofs.YtkhalnjgbdpfhaaGreat.S20
namespace Go.Proofs.YtkhalnjgbdpfhaaGreat.S20
set_option maxRecDepth 100000
open Go.RowKit Go.ChangeShapes Go.WideShapes Go.Deep

theorem trod_foot {H : Type} {enc : TypeId × Value → H} {W : World} {n : Nat} {cs : List Value} {x : DataW H × List MemPlace} (h : DataW.trod enc Tryz.prog W 0 (fun _ => true) true n 53 cs = some x) : ∃ a : Fp, Ky64 (kyP a) ∧ cs = fe a := by
  obtain ⟨y0, y1, y2, y3, n, _, hl, h0, h1, h2, h3⟩ := Go.Joins.trod_struct4 Tryz.underlying53 h
  rw [show Tryz.prog.cellsOf 53 = 4 by kernel_rfl] at hl
  match cs, hl with
  | [c0, c1, c2, c3], _ =>
    simp only [show Tryz.prog.cellsOf 3 = 1 by kernel_rfl, show Tryz.prog.cellsOf 4 = 1 by kernel_rfl] at h0 h1 h2 h3
    obtain ⟨t, e0, _, w0⟩ := DataW.trod_int Tryz.underlying3 h0
    obtain ⟨a, e1, _, w1⟩ := DataW.trod_int Tryz.underlying3 h1
    obtain ⟨b, e2, -⟩ := DataW.trod_int Tryz.underlying3 h2
    obtain ⟨v, e3, -⟩ := DataW.trod_bool Tryz.underlying4 h3
    simp at e0 e1 e2 e3
    subst e0 e1 e2 e3
    exact ⟨(t, a, b, v), ⟨⟨int_low w0, int_top w0⟩, int_low w1, int_top w1⟩, rfl⟩
end Go.Proofs.YtkhalnjgbdpfhaaGreat.S20
