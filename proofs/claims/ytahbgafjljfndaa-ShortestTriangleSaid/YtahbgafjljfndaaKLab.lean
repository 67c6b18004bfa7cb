/-
  leastCosts: the row of costs as it is filled, the queue's least element, what a store into a node's box leaves. Condition: none beyond each theorem's own hypotheses.
-/
import Derived.Test.YtahbgafjljfndaaKRch
namespace Go.Proofs.Ytahbgafjljfndaa
open Go.RowKit

/-! ### The costs at the start -/
def farRow (n k : Nat) : List Ct := List.replicate k farC ++ List.replicate (n - k) (0, 0)
theorem farRow_len {n k : Nat} (h : k ≤ n) : (farRow n k).length = n := by unfold farRow; rw [List.length_append, List.length_replicate, List.length_replicate]; omega
theorem farRow_zero (n : Nat) : farRow n 0 = List.replicate n (0, 0) := by unfold farRow; simp
theorem farRow_all (n : Nat) : farRow n n = List.replicate n farC := by unfold farRow; simp
theorem farRow_at {n k : Nat} (h : k < n) : (farRow n k)[k]? = some (0, 0) := by
  unfold farRow
  rw [List.getElem?_append_right (by rw [List.length_replicate]; exact Nat.le_refl _), List.length_replicate, Nat.sub_self, List.getElem?_replicate, if_pos (by omega)]
theorem farRow_set {n k : Nat} (h : k < n) : (farRow n k).set k farC = farRow n (k + 1) := by
  unfold farRow
  rw [List.set_append_right _ _ (by rw [List.length_replicate]; exact Nat.le_refl _), List.length_replicate, Nat.sub_self, show n - k = (n - (k + 1)) + 1 by omega, List.replicate_succ, List.set_cons_zero, List.replicate_succ', List.append_assoc]
  rfl
theorem set_same {β : Type} (l : List β) (i : Nat) (a : β) (h : l[i]? = some a) : l.set i a = l := by
  apply List.ext_getElem?
  intro j
  rw [List.getElem?_set]
  split
  · next e =>
    subst e
    rw [if_pos (List.getElem?_eq_some_iff.1 h).1, h]
  · rfl
/-- The first cell of a cost stored. -/
theorem OwnC.put1 {w : World} {base g c : Nat} {l : List Ct} (h : OwnC w base (.slice (some ⟨g, 0, none⟩) l.length c) l) {i : Nat} {b : Ct} (hb : l[i]? = some b) (x : Int) : OwnC (w.setCell ⟨g, i * 2, none⟩ (.int .i64 x)) base (.slice (some ⟨g, 0, none⟩) (l.set i (x, b.2)).length c) (l.set i (x, b.2)) := by
  have hi := (List.getElem?_eq_some_iff.1 hb).1
  have h1 := (World.ownsRow.stored h (i * 2) (.int .i64 x)).1
  have e : (fl cc l).set (i * 2) (.int .i64 x) = fl cc (l.set i (x, b.2)) := by
    rw [← fl_set (enc := cc) (fun a => ⟨_, _, rfl⟩) l i (x, b.2) _ _ rfl hi]
    symm
    apply set_same
    rw [List.getElem?_set_ne (by omega)]
    exact fl_at cc_len hb 1 (by omega)
  rw [e] at h1
  show World.ownsRow _ base _ 2 _ (l.set i (x, b.2)).length _
  rw [List.length_set]
  exact h1
theorem OwnC.put1n {w : World} {base g c n : Nat} {l : List Ct} (hl : l.length = n) (h : OwnC w base (.slice (some ⟨g, 0, none⟩) n c) l) {i : Nat} {b : Ct} (hb : l[i]? = some b) (x : Int) : OwnC (w.setCell ⟨g, i * 2, none⟩ (.int .i64 x)) base (.slice (some ⟨g, 0, none⟩) n c) (l.set i (x, b.2)) := by
  subst hl
  have := OwnC.put1 h hb x
  rw [List.length_set] at this
  exact this
theorem OwnC.atn {w : World} {base g c n : Nat} {l : List Ct} (hl : l.length = n) (h : OwnC w base (.slice (some ⟨g, 0, none⟩) n c) l) {i : Nat} {a : Ct} (ha : l[i]? = some a) :
    w.cell? ⟨g, i * 2, none⟩ = some (.int .i64 a.1) ∧ w.cell? ⟨g, i * 2 + 1, none⟩ = some (.int .i64 a.2) ∧ w.frozen? ⟨g, i * 2, none⟩ = false ∧ w.frozen? ⟨g, i * 2 + 1, none⟩ = false := by
  subst hl
  exact OwnC.at h ha
theorem gl_far (n i : Nat) : gl (List.replicate n farC) i = farC := by
  unfold gl
  rw [List.getD_eq_getElem?_getD, List.getElem?_replicate]
  split <;> rfl
theorem first_less : ltC (0, 0) farC = true := by decide

/-! ### The queue -/
theorem first_queue (x : Pr) : (pushH lCost [] 0 x).map (·.1) = [x] := by
  have h := (push_perm lCost [] 0 x).map (·.1)
  exact List.perm_singleton.1 h
theorem first_heap (x : Pr) : Hp lCost (pushH lCost [] 0 x) := push_heap cost_ord Hp.nil 0 x
/-- What waits behind a pop. -/
structure Top (D : List Ed) (n b : Nat) (lab : List Ct) (l : List (Pr × Nat)) (N : Nat) (x : Pr) : Prop where
  hp : Hp lCost l
  dj : ∃ Q X K, Dj D n b lab Q X [] N K ∧ Q.Perm (x :: l.map (·.1)) ∧ ∀ y ∈ l.map (·.1), ltC y.2 x.2 = false
theorem pop_top {D : List Ed} {n b : Nat} {lab : List Ct} {l : List (Pr × Nat)} {X : List Nat} {N : Nat} {K : Int} (h : Dj D n b lab (l.map (·.1)) X [] N K) (hp : Hp lCost l) {a : Pr × Nat} (ha : l[0]? = some a) : Top D n b lab (popH lCost l) N a.1 := by
  have hperm := pop_perm lCost l a ha
  refine ⟨pop_heap cost_ord hp, _, X, K, h, (by have := hperm.map (·.1); exact this), fun y hy => ?_⟩
  obtain ⟨z, hz, rfl⟩ := List.mem_map.1 hy
  exact (nb_iff.1 (root_least cost_ord hp ha z (hperm.symm.subset (List.mem_cons_of_mem _ hz)))).1
theorem Dj.low {D : List Ed} {n b : Nat} {lab : List Ct} {Q : List (Int × Ct)} {X : List Nat} {T : List Ed} {N : Nat} {K : Int} (h : Dj D n b lab Q X T N K) (hD : D.length ≤ 4096) : N + T.length ≤ 4097 ∧ Q.length ≤ N := by
  have := h.cnt
  have := h.qn
  omega
theorem Dj.pushed {D : List Ed} {n b : Nat} {lab : List Ct} {l : List (Pr × Nat)} {X : List Nat} {T : List Ed} {N : Nat} {K : Int} {e : Ed} (h : Dj D n b lab (l.map (·.1)) X (e :: T) N K) (hn : n ≤ 64) (hX : e.1 ∈ X) (he : e ∈ D) (hl : Inn D n) (hK : key (gl lab e.1) = K) (hk : (gl lab e.1).2 + 1 ≤ (X.length : Int)) (hlt : ltC (plusC (gl lab e.1) e.2.2) (gl lab e.2.1) = true) :
    Dj D n b (lab.set e.2.1 (plusC (gl lab e.1) e.2.2)) ((pushH lCost l N ((e.2.1 : Int), plusC (gl lab e.1) e.2.2)).map (·.1)) X T (N + 1) K ∧ gl (lab.set e.2.1 (plusC (gl lab e.1) e.2.2)) e.1 = gl lab e.1 := by
  refine h.less hn hX he hl hK hk hlt ?_
  have := (push_perm lCost l N ((e.2.1 : Int), plusC (gl lab e.1) e.2.2)).map (·.1)
  rw [List.map_append] at this
  exact this

/-! ### Memory -/
/-- How much is left to do. -/
def lenV : Value → Nat | .slice _ n _ => n | _ => 0
def lenW (w : World) (B : Nat) : Nat := lenV ((w.cell? ⟨B, 1, none⟩).getD undef) + (4098 - (intOf ((w.cell? ⟨B, 2, none⟩).getD undef)).toNat)
theorem Rs.lenW {w : World} {base G B P n : Nat} {lab : List Ct} {l : List (Pr × Nat)} {N : Nat} (h : Rs w base G B P n lab l N) : lenW w B = l.length + (4098 - N) := by
  obtain ⟨v, m0, m1, m2, -, -, -, h2⟩ := h.st.cells
  obtain ⟨A, c, rfl, _⟩ := ownK_shape h2
  unfold Go.Proofs.Ytahbgafjljfndaa.lenW
  rw [m1, m2]
  simp [lenV, intOf]
/-- A node's box. -/
def Vis (w : World) (p : Nat) (x : Pr) : Prop := w.heap[p]? = some (.cells #[.int .i64 x.1, .int .i64 x.2.1, .int .i64 x.2.2] 66 (0, 0))
theorem not_lt_vis : ¬ LT 66 := by rintro ((h | h) | h) <;> cases h
theorem Rs.store {w : World} {base G B P n : Nat} {lab : List Ct} {l : List (Pr × Nat)} {N : Nat} (h : Rs w base G B P n lab l N) {p : Nat} (ht : Tag w p 66) (o : Nat) (u : Value) : Rs (w.setCell ⟨p, o, none⟩ u) base G B P n lab l N := by
  have e0 : ∀ g, (Value.slice (some ⟨G, 0, none⟩) n n).ownBlock = some g → g ≠ p := by
    intro g hg e
    cases hg
    subst e
    have := Tag.uniq h.own.tag ht
    cases this
  have e1 : G + 1 ≠ p := by
    rintro rfl
    have := Tag.uniq ⟨_, _, h.box⟩ ht
    cases this
  have e2 : P ≠ p := by
    rintro rfl
    have := Tag.uniq ⟨_, _, h.que⟩ ht
    cases this
  refine ⟨h.len, ?_, (RowKit.Below.heap_setCell _ _ _ _ e1).trans h.box, (RowKit.Below.heap_setCell _ _ _ _ e2).trans h.que, h.st.store (p := ⟨p, o, none⟩) ht (fun x => not_lt_vis (.inl x)) u⟩
  refine ⟨h.own.1, ?_⟩
  rcases h.own.2 with h0 | ⟨g, cap, cur, hv, hbg, hg, hr⟩
  · exact Or.inl h0
  · exact Or.inr ⟨g, cap, cur, hv, hbg, (RowKit.Below.heap_setCell _ _ _ _ (e0 g (by rw [hv]; rfl))).trans hg, hr⟩
/-- The next node laid into its box. -/
theorem Rs.next {w2 w3 : World} {base G B P n : Nat} {lab : List Ct} {l l' : List (Pr × Nat)} {N : Nat} (h : Rs w2 base G B P n lab l N) (x y : Pr) (hs : St w3 B fnC l' N) (hf : Fr HT B (w2.alloc (.cells #[.int .i64 x.1, .int .i64 x.2.1, .int .i64 x.2.2] 66 (0, 0))) w3) :
    Rs (((w3.setCell ⟨w2.heap.size, 0, none⟩ (.int .i64 y.1)).setCell ⟨w2.heap.size, 1, none⟩ (.int .i64 y.2.1)).setCell ⟨w2.heap.size, 2, none⟩ (.int .i64 y.2.2)) base G B P n lab l' N ∧
    Vis (((w3.setCell ⟨w2.heap.size, 0, none⟩ (.int .i64 y.1)).setCell ⟨w2.heap.size, 1, none⟩ (.int .i64 y.2.1)).setCell ⟨w2.heap.size, 2, none⟩ (.int .i64 y.2.2)) w2.heap.size y ∧ Vis w3 w2.heap.size x := by
  have r3 := hf.other (heap_alloc_new w2 _) (fun x => not_lt_vis (.inl x))
  have h3 := (h.below ((Below.refl _ _).alloc (Nat.le_refl _) (.cells #[.int .i64 x.1, .int .i64 x.2.1, .int .i64 x.2.2] 66 (0, 0)))).push hs hf
  have a1 := heap_setCell_same w3 w2.heap.size 0 _ _ (.int .i64 y.1) r3
  have a2 := heap_setCell_same _ w2.heap.size 1 _ _ (.int .i64 y.2.1) a1
  have a3 := heap_setCell_same _ w2.heap.size 2 _ _ (.int .i64 y.2.2) a2
  refine ⟨((h3.store ⟨_, _, r3⟩ _ _).store ⟨_, _, a1⟩ _ _).store ⟨_, _, a2⟩ _ _, ?_, r3⟩
  unfold Vis
  rw [a3]
  simp
theorem Vis.cells {w : World} {p : Nat} {x : Pr} (h : Vis w p x) : w.cell? ⟨p, 0, none⟩ = some (.int .i64 x.1) ∧ w.cell? ⟨p, 1, none⟩ = some (.int .i64 x.2.1) ∧ w.cell? ⟨p, 2, none⟩ = some (.int .i64 x.2.2) ∧ w.frozen? ⟨p, 0, none⟩ = false ∧ w.frozen? ⟨p, 1, none⟩ = false ∧ w.frozen? ⟨p, 2, none⟩ = false := by
  unfold Vis at h
  refine ⟨?_, ?_, ?_, frozen_of_row w p 0 _ _ h, frozen_of_row w p 1 _ _ h, frozen_of_row w p 2 _ _ h⟩
  · rw [cell_of_row w p 0 _ _ _ h]; rfl
  · rw [cell_of_row w p 1 _ _ _ h]; rfl
  · rw [cell_of_row w p 2 _ _ _ h]; rfl
theorem Vis.below {w w' : World} {p : Nat} {x : Pr} (h : Vis w p x) (hb : Below w.heap.size w w') : Vis w' p x := (hb.block _ (lt_of_heap h)).trans h
/-- Costs that differ, costs that are alike. -/
theorem neq_cost (a b : Ct) (q : Bool) (h : (!decide (a = b)) = q) (W : World) : (binOp BinOp.neq 58 (.agg #[.int .i64 a.1, .int .i64 a.2]) (.agg #[.int .i64 b.1, .int .i64 b.2])).run Try.prog W = .ok (.bool q) W := by
  subst h
  obtain ⟨a1, a2⟩ := a
  obtain ⟨b1, b2⟩ := b
  by_cases h1 : a1 = b1
  · by_cases h2 : a2 = b2
    · subst h1 h2; go_simp
    · subst h1
      have : (a2 == b2) = false := beq_false h2
      go_simp
  · have : (a1 == b1) = false := beq_false h1
    go_simp
end Go.Proofs.Ytahbgafjljfndaa
