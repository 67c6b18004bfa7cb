/-
  Plain facts about a path that goes from node to node, each time to the least node from which the rest of the cost remains; the least length of the edges between two nodes: no program. Condition: at most 64 nodes.
-/
import Derived.Test.YtahbgafjljfndaaDjk
namespace Go.Proofs.Ytahbgafjljfndaa
open Go

def stepN (lab : List Ct) (a : Nat) (f : Nat) (e : Ed) : Nat := if plusC (gl lab e.2.1) e.2.2 = gl lab a then min f e.2.1 else f
/-- The least node behind a. -/
def nxt (L : List Ed) (lab : List Ct) (a : Nat) : Nat := (outs L a).foldl (stepN lab a) 64
def nd (L : List Ed) (lab : List Ct) (s : Nat) : Nat → Nat
  | 0 => s
  | j + 1 => nxt L lab (nd L lab s j)
def stepR (d : List Int) (a : Nat) (m : Int) (e : Ed) : Int := if e.1 = a ∧ 0 ≤ d.getD e.2.1 (-1) ∧ d.getD e.2.1 (-1) + (e.2.2 : Int) * 128 + 1 = d.getD a (-1) ∧ (m < 0 ∨ (e.2.1 : Int) < m) then (e.2.1 : Int) else m
def nxtR (L : List Ed) (d : List Int) (a : Nat) : Int := L.foldl (stepR d a) (-1)
variable {L : List Ed} {n b : Nat} {lab : List Ct}
/-- What is known of a node: there is no way, or its cost. -/
theorem Lc.at (h : Lc (turnL L) n b lab) (hn : n ≤ 64) (hb : b < n) (hl : Inn L n) {i : Nat} (hi : i < n) :
    (gl lab i = farC ∧ (costL n L b).getD i (-1) = -1 ∧ ∀ k W, ¬ Wl L b k i W) ∨ ∃ c : Nat, gl lab i = (((c / 128 : Nat) : Int), ((c % 128 : Nat) : Int)) ∧ (costL n L b).getD i (-1) = (c : Int) ∧ c / 128 < 68719476736 ∧ c % 128 < n ∧ Mn 128 L b i c := by
  rcases h.2 i hi with ⟨e, hno⟩ | ⟨c, e, h1, h2⟩
  · have hno' : ∀ k W, ¬ Wl L b k i W := fun k W hk => hno k W hk.turn
    rcases costL_spec hl hb i with ⟨e1, _⟩ | ⟨c, _, hc⟩
    · exact .inl ⟨e, e1, hno'⟩
    · obtain ⟨k, hk⟩ := hc.1
      obtain ⟨W, hW, _⟩ := hk.wl
      exact absurd hW (hno' _ _)
  · rw [turn_turn] at h2
    obtain ⟨-, ⟨k, hk, hkn, -⟩, -⟩ := h2.dist hl hb (by omega)
    rcases costL_spec hl hb i with ⟨_, hno⟩ | ⟨c', e1, hc⟩
    · obtain ⟨k, hk⟩ := h2.1
      exact absurd hk (hno _ _)
    · rw [← h2.uniq hc] at e1
      exact .inr ⟨c, e, e1, h1, by omega, h2⟩
/-- One edge fits the code's test as it fits the reference's. -/
theorem Lc.fits (h : Lc (turnL L) n b lab) (hn : n ≤ 64) (hb : b < n) (hl : Inn L n) {a c t w : Nat} (ha : gl lab a = (((c / 128 : Nat) : Int), ((c % 128 : Nat) : Int))) (hd : (costL n L b).getD a (-1) = (c : Int)) (hc : c / 128 < 68719476736) (ht : t < n) :
    plusC (gl lab t) w = gl lab a ↔ 0 ≤ (costL n L b).getD t (-1) ∧ (costL n L b).getD t (-1) + (w : Int) * 128 + 1 = (costL n L b).getD a (-1) := by
  rw [ha, hd]
  rcases h.at hn hb hl ht with ⟨e, e1, _⟩ | ⟨c', e, e1, h1, h2, _⟩
  · rw [e, e1]
    unfold plusC farC
    constructor
    · intro x
      have := congrArg Prod.fst x
      simp at this
      omega
    · intro x
      omega
  · rw [e, e1]
    unfold plusC
    constructor
    · intro x
      have a1 := congrArg Prod.fst x
      have a2 := congrArg Prod.snd x
      simp only at a1 a2
      omega
    · intro x
      refine Prod.ext ?_ ?_
      · simp only; omega
      · simp only; omega
def RelN (f : Nat) (m : Int) : Prop := (f = 64 ∧ m = -1) ∨ (f < 64 ∧ m = (f : Int))
theorem rel_step (h : Lc (turnL L) n b lab) (hn : n ≤ 64) (hb : b < n) (hl : Inn L n) {a c : Nat} (ha : gl lab a = (((c / 128 : Nat) : Int), ((c % 128 : Nat) : Int))) (hd : (costL n L b).getD a (-1) = (c : Int)) (hc : c / 128 < 68719476736) {e : Ed} (he : e ∈ L) {f : Nat} {m : Int} (hr : RelN f m) :
    RelN (if (e.1 == a) = true then stepN lab a f e else f) (stepR (costL n L b) a m e) := by
  have ht := (hl e he).2
  have hf := h.fits hn hb hl (w := e.2.2) ha hd hc ht
  unfold stepR
  by_cases e1 : e.1 = a
  · rw [if_pos (by rw [e1]; simp)]
    unfold stepN
    by_cases e2 : plusC (gl lab e.2.1) e.2.2 = gl lab a
    · rw [if_pos e2]
      obtain ⟨x1, x2⟩ := hf.1 e2
      rcases hr with ⟨rfl, rfl⟩ | ⟨h1, rfl⟩
      · rw [if_pos ⟨e1, x1, x2, .inl (by omega)⟩]
        exact .inr ⟨by omega, by omega⟩
      · by_cases e3 : e.2.1 < f
        · rw [if_pos ⟨e1, x1, x2, .inr (by omega)⟩]
          exact .inr ⟨by omega, by omega⟩
        · rw [if_neg (fun x => by have := x.2.2.2; omega)]
          exact .inr ⟨by omega, by omega⟩
    · rw [if_neg e2, if_neg (fun x => e2 (hf.2 ⟨x.2.1, x.2.2.1⟩))]
      exact hr
  · rw [if_neg (by simpa using e1), if_neg (fun x => e1 x.1)]
    exact hr
theorem rel_fold (h : Lc (turnL L) n b lab) (hn : n ≤ 64) (hb : b < n) (hl : Inn L n) {a c : Nat} (ha : gl lab a = (((c / 128 : Nat) : Int), ((c % 128 : Nat) : Int))) (hd : (costL n L b).getD a (-1) = (c : Int)) (hc : c / 128 < 68719476736) :
    ∀ (l : List Ed), (∀ e ∈ l, e ∈ L) → ∀ {f : Nat} {m : Int}, RelN f m → RelN (l.foldl (fun f e => if (e.1 == a) = true then stepN lab a f e else f) f) (l.foldl (stepR (costL n L b) a) m)
  | [], _, _, _, hr => hr
  | e :: l, hs, f, m, hr => by
    rw [List.foldl_cons, List.foldl_cons]
    exact rel_fold h hn hb hl ha hd hc l (fun x hx => hs x (List.mem_cons_of_mem _ hx)) (rel_step h hn hb hl ha hd hc (hs e (by simp)) hr)
/-- What the least node is. -/
theorem fold_spec (lab : List Ct) (a : Nat) : ∀ (l : List Ed) (f : Nat), (l.foldl (stepN lab a) f = f ∨ ∃ e ∈ l, plusC (gl lab e.2.1) e.2.2 = gl lab a ∧ l.foldl (stepN lab a) f = e.2.1) ∧ l.foldl (stepN lab a) f ≤ f ∧ ∀ e ∈ l, plusC (gl lab e.2.1) e.2.2 = gl lab a → l.foldl (stepN lab a) f ≤ e.2.1
  | [], f => ⟨.inl rfl, Nat.le_refl _, fun e he => by cases he⟩
  | e :: l, f => by
    rw [List.foldl_cons]
    obtain ⟨h1, h2, h3⟩ := fold_spec lab a l (stepN lab a f e)
    have hs : stepN lab a f e ≤ f ∧ (plusC (gl lab e.2.1) e.2.2 = gl lab a → stepN lab a f e ≤ e.2.1) ∧ (stepN lab a f e = f ∨ (plusC (gl lab e.2.1) e.2.2 = gl lab a ∧ stepN lab a f e = e.2.1)) := by
      unfold stepN
      by_cases x : plusC (gl lab e.2.1) e.2.2 = gl lab a
      · rw [if_pos x]
        refine ⟨by omega, fun _ => by omega, ?_⟩
        rcases Nat.le_total f e.2.1 with y | y
        · exact .inl (by omega)
        · exact .inr ⟨x, by omega⟩
      · rw [if_neg x]
        exact ⟨Nat.le_refl _, fun y => absurd y x, .inl rfl⟩
    refine ⟨?_, by omega, fun d hd hx => ?_⟩
    · rcases h1 with h1 | ⟨d, hd, x, h1⟩
      · rw [h1]
        rcases hs.2.2 with y | ⟨x, y⟩
        · exact .inl y
        · exact .inr ⟨e, by simp, x, y⟩
      · exact .inr ⟨d, List.mem_cons_of_mem _ hd, x, h1⟩
    · rcases List.mem_cons.1 hd with rfl | hd
      · have := hs.2.1 hx
        omega
      · exact h3 d hd hx
/-- From a node with a way of one edge or more there is a least next one. -/
theorem Lc.next (h : Lc (turnL L) n b lab) (hn : n ≤ 64) (hb : b < n) (hl : Inn L n) {a c : Nat} (hm : Mn 128 L b a c) (ha : gl lab a = (((c / 128 : Nat) : Int), ((c % 128 : Nat) : Int))) (hd : (costL n L b).getD a (-1) = (c : Int)) (hc : c / 128 < 68719476736) (h0 : 0 < c % 128) :
    ∃ w c' : Nat, (a, nxt L lab a, w) ∈ L ∧ nxt L lab a < n ∧ c = c' + w * 128 + 1 ∧ Mn 128 L b (nxt L lab a) c' ∧ c' % 128 + 1 = c % 128 ∧ gl lab (nxt L lab a) = (((c' / 128 : Nat) : Int), ((c' % 128 : Nat) : Int)) ∧ (costL n L b).getD (nxt L lab a) (-1) = (c' : Int) ∧ nxtR L (costL n L b) a = (nxt L lab a : Int) := by
  obtain ⟨k, hk⟩ := hm.1
  have ex : ∃ e ∈ outs L a, plusC (gl lab e.2.1) e.2.2 = gl lab a := by
    cases k with
    | zero => have := hk.2; omega
    | succ k =>
      obtain ⟨m, w, c', he, hw, e⟩ := hk
      have ht := (hl _ he).2
      subst e
      have hm' := Mn.tail he hw hm
      rcases h.at hn hb hl ht with ⟨_, _, hno⟩ | ⟨c2, e1, e2, h1, h2, h3⟩
      · obtain ⟨W, hW, _⟩ := hw.wl
        exact absurd hW (hno _ _)
      · rw [← hm'.uniq h3] at e1 e2 h1 h2
        exact ⟨(a, m, w), mem_outs.2 ⟨he, rfl⟩, (h.fits hn hb hl (t := m) (w := w) ha hd hc ht).2 ⟨by rw [e2]; omega, by rw [e2, hd]; omega⟩⟩
  obtain ⟨e, he, hx⟩ := ex
  obtain ⟨h1, h2, h3⟩ := fold_spec lab a (outs L a) 64
  have hlt : nxt L lab a < 64 := by
    have := h3 e he hx
    have := (hl e (mem_outs.1 he).1).2
    unfold nxt
    omega
  rcases h1 with h1 | ⟨d, hd', hy, h1⟩
  · unfold nxt at hlt
    omega
  · change nxt L lab a = d.2.1 at h1
    obtain ⟨hdL, hda⟩ := mem_outs.1 hd'
    have ht := (hl d hdL).2
    obtain ⟨x1, x2⟩ := (h.fits hn hb hl ha hd hc ht).1 hy
    rw [h1]
    rcases h.at hn hb hl ht with ⟨_, e2, _⟩ | ⟨c2, e1, e2, y1, y2, y3⟩
    · omega
    · refine ⟨d.2.2, c2, ?_, ht, by omega, y3, by omega, e1, e2, ?_⟩
      · rw [← hda]; exact hdL
      · have hr := rel_fold h hn hb hl ha hd hc L (fun _ hx => hx) (f := 64) (m := -1) (.inl ⟨rfl, rfl⟩)
        have he : L.foldl (fun f e => if (e.1 == a) = true then stepN lab a f e else f) 64 = nxt L lab a := by
          unfold nxt outs
          rw [List.foldl_filter]
        rw [he, h1] at hr
        have hd2 : d.2.1 < 64 := by omega
        rcases hr with ⟨r1, _⟩ | ⟨_, r2⟩
        · omega
        · exact r2
/-- The whole way: K edges from s to b. -/
theorem Lc.path (h : Lc (turnL L) n b lab) (hn : n ≤ 64) (hb : b < n) (hl : Inn L n) {s c : Nat} (hs : s < n) (hm : Mn 128 L b s c) (ha : gl lab s = (((c / 128 : Nat) : Int), ((c % 128 : Nat) : Int))) (hd : (costL n L b).getD s (-1) = (c : Int)) (hc : c / 128 < 68719476736) :
    ∀ j, j ≤ c % 128 → nd L lab s j < n ∧ ∃ x : Nat, Mn 128 L b (nd L lab s j) x ∧ gl lab (nd L lab s j) = (((x / 128 : Nat) : Int), ((x % 128 : Nat) : Int)) ∧ (costL n L b).getD (nd L lab s j) (-1) = (x : Int) ∧ x / 128 < 68719476736 ∧ x % 128 + j = c % 128 := by
  intro j
  induction j with
  | zero => intro _; exact ⟨hs, c, hm, ha, hd, hc, rfl⟩
  | succ j ih =>
    intro hj
    obtain ⟨h1, x, x1, x2, x3, x4, x5⟩ := ih (by omega)
    obtain ⟨w, c', e1, e2, e3, e4, e5, e6, e7, _⟩ := h.next hn hb hl x1 x2 x3 x4 (by omega)
    exact ⟨e2, c', e4, e6, e7, by omega, by omega⟩
theorem mn_zero {x a : Nat} (hl : Inn L n) (hb : b < n) (hn : n ≤ 64) (h : Mn 128 L b a x) (h0 : x % 128 = 0) : a = b := by
  obtain ⟨-, ⟨k, hk, -, hw⟩, -⟩ := h.dist hl hb (by omega)
  rw [h0] at hk
  subst hk
  exact hw.1
theorem mn_self (L : List Ed) (b : Nat) : Mn 128 L b b 0 := ⟨⟨0, Wk.nil _ _ _⟩, fun _ _ _ => Nat.zero_le _⟩
/-- The list of the nodes of the way. -/
def pathN (L : List Ed) (lab : List Ct) (s k : Nat) : List Int := (List.range k).map fun j => ((nd L lab s j : Nat) : Int)
theorem pathN_len (L : List Ed) (lab : List Ct) (s k : Nat) : (pathN L lab s k).length = k := by unfold pathN; rw [List.length_map, List.length_range]
theorem pathN_succ (L : List Ed) (lab : List Ct) (s k : Nat) : pathN L lab s (k + 1) = pathN L lab s k ++ [((nd L lab s k : Nat) : Int)] := by unfold pathN; rw [List.range_succ, List.map_append]; rfl
theorem pathN_at (L : List Ed) (lab : List Ct) (s k : Nat) {j : Nat} (h : j < k) : (pathN L lab s k)[j]? = some ((nd L lab s j : Nat) : Int) := by
  unfold pathN
  rw [List.getElem?_map, List.getElem?_range h]
  rfl

/-! ### The least length of the edges between two nodes -/
def stepW (a t : Nat) (w : Int) (e : Ed) : Int := if e.1 = a ∧ e.2.1 = t ∧ (w < 0 ∨ (e.2.2 : Int) < w) then (e.2.2 : Int) else w
def leastW (L : List Ed) (a t : Nat) : Int := L.foldl (stepW a t) (-1)
theorem leastW_spec (a t : Nat) : ∀ (l : List Ed) (w : Int), ((∃ e ∈ l, e.1 = a ∧ e.2.1 = t ∧ l.foldl (stepW a t) w = (e.2.2 : Int)) ∨ l.foldl (stepW a t) w = w) ∧ (0 ≤ w → 0 ≤ l.foldl (stepW a t) w ∧ l.foldl (stepW a t) w ≤ w) ∧ ∀ e ∈ l, e.1 = a → e.2.1 = t → 0 ≤ l.foldl (stepW a t) w ∧ l.foldl (stepW a t) w ≤ (e.2.2 : Int)
  | [], w => ⟨.inr rfl, fun h => ⟨h, Int.le_refl _⟩, fun e he => by cases he⟩
  | e :: l, w => by
    rw [List.foldl_cons]
    obtain ⟨h1, h2, h3⟩ := leastW_spec a t l (stepW a t w e)
    have hs : (stepW a t w e = w ∨ (e.1 = a ∧ e.2.1 = t ∧ stepW a t w e = (e.2.2 : Int))) ∧ (0 ≤ w → 0 ≤ stepW a t w e ∧ stepW a t w e ≤ w) ∧ (e.1 = a → e.2.1 = t → 0 ≤ stepW a t w e ∧ stepW a t w e ≤ (e.2.2 : Int)) := by
      unfold stepW
      by_cases x : e.1 = a ∧ e.2.1 = t ∧ (w < 0 ∨ (e.2.2 : Int) < w)
      · rw [if_pos x]
        exact ⟨.inr ⟨x.1, x.2.1, rfl⟩, fun _ => by omega, fun _ _ => by omega⟩
      · rw [if_neg x]
        refine ⟨.inl rfl, fun _ => by omega, fun y z => ?_⟩
        have : ¬ (w < 0 ∨ (e.2.2 : Int) < w) := fun u => x ⟨y, z, u⟩
        omega
    refine ⟨?_, fun h => ?_, fun d hd y z => ?_⟩
    · rcases h1 with ⟨d, hd, y, z, h1⟩ | h1
      · exact .inl ⟨d, List.mem_cons_of_mem _ hd, y, z, h1⟩
      · rw [h1]
        rcases hs.1 with u | ⟨y, z, u⟩
        · exact .inr u
        · exact .inl ⟨e, by simp, y, z, u⟩
    · have a1 := hs.2.1 h
      have a2 := h2 a1.1
      omega
    · rcases List.mem_cons.1 hd with rfl | hd
      · have a1 := hs.2.2 y z
        have a2 := h2 a1.1
        omega
      · exact h3 d hd y z
/-- On a least way the least length of the edges is what the cost falls by. -/
theorem leastW_tight {a t w c : Nat} (he : (a, t, w) ∈ L) (hm : Mn 128 L b a (c + w * 128 + 1)) (ht : Mn 128 L b t c) : leastW L a t = (w : Int) := by
  obtain ⟨h1, _, h3⟩ := leastW_spec a t L (-1)
  have h4 := h3 _ he rfl rfl
  unfold leastW
  rcases h1 with ⟨e, hm', y, z, h1⟩ | h1
  · obtain ⟨x, u, v⟩ := e
    simp only at y z h1
    subst y z
    obtain ⟨k, hk⟩ := ht.1
    have := hm.2 _ _ (Wk.cons hm' hk)
    simp only at h4
    omega
  · omega
end Go.Proofs.Ytahbgafjljfndaa
