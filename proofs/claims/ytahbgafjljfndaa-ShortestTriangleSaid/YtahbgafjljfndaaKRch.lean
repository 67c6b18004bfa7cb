/-
  The closure reach of leastCosts: what it leaves of the costs and of the queue. Condition: a node of the graph; at most 10^6 elements in the queue.
-/
import Derived.Test.YtahbgafjljfndaaKNbr
import Derived.Test.YtahbgafjljfndaaZPush
namespace Go.Proofs.Ytahbgafjljfndaa
open Go.RowKit

/-- The function that the queue was made with. -/
abbrev fnC : Value := .func (.func 35) #[] #[]
/-- The types that leastCosts writes. -/
def LT (T : TypeId) : Prop := HT T ∨ T = 58
theorem Fr.imp {P P' : TypeId → Prop} {B B' : Nat} {w w' : World} (h : Fr P B w w') (hB : B' ≤ B) (hP : ∀ T, P T → P' T) : Fr P' B' w w' :=
  ⟨h.os, h.tape, h.output, h.size, fun k hk hc => h.block k hk (hc.imp (fun x => Nat.lt_of_lt_of_le x hB) fun x T hT => x T (hP T hT))⟩
/-- The state of leastCosts: the costs in block G, their slice boxed in G + 1, the queue's pointer boxed in P, the queue at B. -/
structure Rs (w : World) (base G B P n : Nat) (lab : List Ct) (l : List (Pr × Nat)) (N : Nat) : Prop where
  len : lab.length = n
  own : OwnC w base (.slice (some ⟨G, 0, none⟩) n n) lab
  box : w.heap[G + 1]? = some (.cells #[.slice (some ⟨G, 0, none⟩) n n] 54 (0, 0))
  que : w.heap[P]? = some (.cells #[.pointer (some ⟨B, 0, none⟩)] 63 (0, 0))
  st : St w B fnC l N
theorem lt_of_heap {w : World} {k : Nat} {x : Obj} (h : w.heap[k]? = some x) : k < w.heap.size := by
  rcases Nat.lt_or_ge k w.heap.size with h' | h'
  · exact h'
  · rw [Array.getElem?_eq_none h'] at h; cases h
theorem Rs.below {w w' : World} {base G B P n : Nat} {lab : List Ct} {l : List (Pr × Nat)} {N : Nat} (h : Rs w base G B P n lab l N) (hb : Below w.heap.size w w') : Rs w' base G B P n lab l N :=
  ⟨h.len, h.own.below hb, (hb.block _ (lt_of_heap h.box)).trans h.box, (hb.block _ (lt_of_heap h.que)).trans h.que, h.st.below hb⟩
theorem not_lt_box : ¬ LT 54 := by rintro ((h | h) | h) <;> cases h
theorem not_lt_que : ¬ LT 63 := by rintro ((h | h) | h) <;> cases h
theorem not_ht_cost : ¬ HT 58 := by rintro (h | h) <;> cases h
/-- What a push leaves. -/
theorem Rs.push {w w' : World} {base G B P n : Nat} {lab : List Ct} {l l' : List (Pr × Nat)} {N N' : Nat} (h : Rs w base G B P n lab l N) (hs : St w' B fnC l' N') (hf : Fr HT B w w') : Rs w' base G B P n lab l' N' :=
  ⟨h.len, h.own.fr hf not_ht_cost, hf.other h.box (fun x => not_lt_box (.inl x)), hf.other h.que (fun x => not_lt_que (.inl x)), hs⟩
theorem Tag.setCell {w : World} {g : Nat} {T : TypeId} (ht : Tag w g T) (p : Addr) (u : Value) : Tag (w.setCell p u) g T := by
  obtain ⟨cs, f, h⟩ := ht
  unfold Tag World.setCell
  rw [Array.getElem?_modify, h]
  split
  · exact ⟨_, _, rfl⟩
  · exact ⟨_, _, rfl⟩
/-- What a store of one cost leaves. -/
theorem Rs.put {w : World} {base G B P n : Nat} {lab : List Ct} {l : List (Pr × Nat)} {N : Nat} (h : Rs w base G B P n lab l N) (hG : base ≤ G) {t : Nat} (ht : t < n) (c : Ct) :
    Rs ((w.setCell ⟨G, t * 2, none⟩ (.int .i64 c.1)).setCell ⟨G, t * 2 + 1, none⟩ (.int .i64 c.2)) base G B P n (lab.set t c) l N ∧ Fr LT base w ((w.setCell ⟨G, t * 2, none⟩ (.int .i64 c.1)).setCell ⟨G, t * 2 + 1, none⟩ (.int .i64 c.2)) := by
  obtain ⟨h1, h2, h3, h4, h5⟩ := h
  have tg : Tag w G 58 := h2.tag
  have e1 : G + 1 ≠ G := by omega
  have e2 : P ≠ G := by
    rintro rfl
    have := Tag.uniq tg ⟨_, _, h4⟩
    cases this
  have tg2 : Tag (w.setCell ⟨G, t * 2, none⟩ (.int .i64 c.1)) G 58 := tg.setCell _ _
  refine ⟨⟨by rw [List.length_set]; exact h1, ?_, ?_, ?_, ?_⟩, ?_⟩
  · rw [← h1] at h2 ht
    have := OwnC.put h2 ht c
    rw [h1] at this
    exact this
  · rw [RowKit.Below.heap_setCell _ _ _ _ e1, RowKit.Below.heap_setCell _ _ _ _ e1]; exact h3
  · rw [RowKit.Below.heap_setCell _ _ _ _ e2, RowKit.Below.heap_setCell _ _ _ _ e2]; exact h4
  · exact (h5.store (p := ⟨G, t * 2, none⟩) tg not_ht_cost _).store (p := ⟨G, t * 2 + 1, none⟩) tg2 not_ht_cost _
  · exact ((Fr.refl LT base w).setCell (p := ⟨G, t * 2, none⟩) hG (.inr rfl) (fun _ => tg) _).setCell (p := ⟨G, t * 2 + 1, none⟩) hG (.inr rfl) (fun _ => tg) _
/-- The cells of a state that a walk reads. -/
theorem Rs.cells {w : World} {base G B P n : Nat} {lab : List Ct} {l : List (Pr × Nat)} {N : Nat} (h : Rs w base G B P n lab l N) {t : Nat} (ht : t < n) :
    w.cell? ⟨G + 1, 0, none⟩ = some (.slice (some ⟨G, 0, none⟩) n n) ∧ w.cell? ⟨P, 0, none⟩ = some (.pointer (some ⟨B, 0, none⟩)) ∧ w.cell? ⟨G, t * 2, none⟩ = some (.int .i64 (gl lab t).1) ∧ w.cell? ⟨G, t * 2 + 1, none⟩ = some (.int .i64 (gl lab t).2) ∧ w.frozen? ⟨G, t * 2, none⟩ = false ∧ w.frozen? ⟨G, t * 2 + 1, none⟩ = false := by
  have hb := h.box
  have hq := h.que
  have ho := h.own
  rw [← h.len] at ho ht
  obtain ⟨a1, a2, a3, a4⟩ := OwnC.at ho (at_gl ht)
  refine ⟨?_, ?_, a1, a2, a3, a4⟩
  · rw [cell_of_row _ _ 0 _ _ _ hb]; rfl
  · rw [cell_of_row _ _ 0 _ _ _ hq]; rfl
set_option maxRecDepth 100000 in
set_option maxHeartbeats 4000000 in
theorem reach_no (base G B P n : Nat) (lab : List Ct) (l : List (Pr × Nat)) (N t : Nat) (ht : t < n) (c : Ct) (hc : ltC c (gl lab t) = false) (w : World) (h : Rs w base G B P n lab l N) :
    Calls Try.prog 37 #[.int .i64 (t : Int), .agg #[.int .i64 c.1, .int .i64 c.2], .pointer (some ⟨G + 1, 0, none⟩), .pointer (some ⟨P, 0, none⟩)] w fun e w' => e = .returned (.tuple #[]) ∧ Below w.heap.size w w' := by
  obtain ⟨w0, hw0⟩ : ∃ x, w.alloc (.cells #[.int .i64 c.1, .int .i64 c.2] 58 (0, 0)) = x := ⟨_, rfl⟩
  have b0 : Below w.heap.size w w0 := by rw [← hw0]; exact (Below.refl _ _).alloc (Nat.le_refl _) _
  have c0 : w0.heap[w.heap.size]? = some (.cells #[.int .i64 c.1, .int .i64 c.2] 58 (0, 0)) := by rw [← hw0]; exact heap_alloc_new _ _
  obtain ⟨m0, m1, m2, m3, m4, m5⟩ := (h.below b0).cells ht
  have q0 : w0.cell? ⟨w.heap.size, 0, none⟩ = some (.int .i64 c.1) := by rw [cell_of_row _ _ 0 _ _ _ c0]; rfl
  have q1 : w0.cell? ⟨w.heap.size, 1, none⟩ = some (.int .i64 c.2) := by rw [cell_of_row _ _ 1 _ _ _ c0]; rfl
  have C := Lib.hid (cless_any c (gl lab t))
  rw [hc] at C
  have B0 := Lib.hid b0
  have gt : (t : Int) < (n : Int) := by omega
  clear b0 c0 h hc m1 m4 m5
  go_enter Try.func37, Try.ntmps37
  go_wp2_with fail
  go_still_tail 5, (by kernel_rfl)
  change wpList _ _ _ _ _ w0.drew
  go_wp2_with fail
  refine (rel (W := w0) (C.out _) (Below.refl _ _).drew).mono ?_
  rintro e w3 ⟨rfl, b3⟩
  have B3 : Hid (Below w.heap.size w w3) := B0.out.trans (b3.mono B0.out.size)
  clear b3 m0 m2 m3 q0 q1
  go_wp2_with fail
  go_end0
  exact ⟨rfl, B3.out⟩
set_option maxRecDepth 100000 in
set_option maxHeartbeats 4000000 in
theorem reach_yes (base G B P n : Nat) (hG : base ≤ G) (hB : base ≤ B) (lab : List Ct) (l : List (Pr × Nat)) (N t : Nat) (ht : t < n) (c : Ct) (hc : ltC c (gl lab t) = true) (hl : l.length ≤ 1000000) (hN : N ≤ 1000000) (w : World) (hwb : base ≤ w.heap.size) (h : Rs w base G B P n lab l N) :
    Calls Try.prog 37 #[.int .i64 (t : Int), .agg #[.int .i64 c.1, .int .i64 c.2], .pointer (some ⟨G + 1, 0, none⟩), .pointer (some ⟨P, 0, none⟩)] w fun e w' => e = .returned (.tuple #[]) ∧ Rs w' base G B P n (lab.set t c) (pushH lCost l N ((t : Int), c)) (N + 1) ∧ Fr LT base w w' := by
  obtain ⟨w0, hw0⟩ : ∃ x, w.alloc (.cells #[.int .i64 c.1, .int .i64 c.2] 58 (0, 0)) = x := ⟨_, rfl⟩
  have b0 : Below w.heap.size w w0 := by rw [← hw0]; exact (Below.refl _ _).alloc (Nat.le_refl _) _
  have c0 : w0.heap[w.heap.size]? = some (.cells #[.int .i64 c.1, .int .i64 c.2] 58 (0, 0)) := by rw [← hw0]; exact heap_alloc_new _ _
  have h0 := h.below b0
  obtain ⟨m0, m1, m2, m3, m4, m5⟩ := h0.cells ht
  have q0 : w0.cell? ⟨w.heap.size, 0, none⟩ = some (.int .i64 c.1) := by rw [cell_of_row _ _ 0 _ _ _ c0]; rfl
  have q1 : w0.cell? ⟨w.heap.size, 1, none⟩ = some (.int .i64 c.2) := by rw [cell_of_row _ _ 1 _ _ _ c0]; rfl
  have C := Lib.hid (cless_any c (gl lab t))
  rw [hc] at C
  have B0 := Lib.hid b0
  have H0 := Lib.hid h0
  have C0 := Lib.hid c0
  have gt : (t : Int) < (n : Int) := by omega
  have HT1 := Lib.hid ht
  have hwG := h.own.tag.lt
  have HW := Lib.hid (show w.heap.size ≠ G by omega)
  have HW0 := Lib.hid (lt_of_heap c0)
  have HWB := Lib.hid hwb
  clear b0 c0 h hc m1 m4 m5 h0 ht hwG hwb
  go_enter Try.func37, Try.ntmps37
  go_wp2_with fail
  go_still_tail 5, (by kernel_rfl)
  change wpList _ _ _ _ _ w0.drew
  go_wp2_with fail
  refine (rel (W := w0) (C.out _) (Below.refl _ _).drew).mono ?_
  rintro e w3 ⟨rfl, b3⟩
  have R3 := Lib.hid (H0.out.below b3)
  have hz3 := b3.size
  have C3 : Hid (w3.heap[w.heap.size]? = some (.cells #[.int .i64 c.1, .int .i64 c.2] 58 (0, 0))) := (b3.block _ HW0.out).trans C0.out
  have F3 : Hid (Fr LT base w w3) := (Below.fr B0.out).trans (Below.fr b3)
  obtain ⟨m0, m1, m2, m3, m4, m5⟩ := R3.out.cells HT1.out
  have q0 : w3.cell? ⟨w.heap.size, 0, none⟩ = some (.int .i64 c.1) := by rw [cell_of_row _ _ 0 _ _ _ C3.out]; rfl
  have q1 : w3.cell? ⟨w.heap.size, 1, none⟩ = some (.int .i64 c.2) := by rw [cell_of_row _ _ 1 _ _ _ C3.out]; rfl
  have P4 := Lib.hid (R3.out.put hG HT1.out c)
  obtain ⟨w4, hw4⟩ : ∃ x, (w3.setCell ⟨G, t * 2, none⟩ (.int .i64 c.1)).setCell ⟨G, t * 2 + 1, none⟩ (.int .i64 c.2) = x := ⟨_, rfl⟩
  have C4 : Hid (w4.heap[w.heap.size]? = some (.cells #[.int .i64 c.1, .int .i64 c.2] 58 (0, 0))) := by
    show _ = _
    rw [← hw4, RowKit.Below.heap_setCell _ _ _ _ HW.out, RowKit.Below.heap_setCell _ _ _ _ HW.out]
    exact C3.out
  have R4 : Hid (Rs w4 base G B P n (lab.set t c) l N ∧ Fr LT base w3 w4) := by rw [← hw4]; exact P4.out
  obtain ⟨n0, n1, -⟩ := R4.out.1.cells HT1.out
  have p0 : w4.cell? ⟨w.heap.size, 0, none⟩ = some (.int .i64 c.1) := by rw [cell_of_row _ _ 0 _ _ _ C4.out]; rfl
  have p1 : w4.cell? ⟨w.heap.size, 1, none⟩ = some (.int .i64 c.2) := by rw [cell_of_row _ _ 1 _ _ _ C4.out]; rfl
  clear b3 hz3 C3 P4 C4 R3 H0 B0 C0
  go_wp2_with fail
  refine (push_any fun_cost B N l ((t : Int), c) trivial hl hN _ R4.out.1.st).mono ?_
  rintro e w5 ⟨rfl, s5, f5⟩
  have K : Hid (Rs w5 base G B P n (lab.set t c) (pushH lCost l N ((t : Int), c)) (N + 1) ∧ Fr LT base w w5) := ⟨R4.out.1.push s5 f5, (F3.out.trans R4.out.2).trans (f5.imp hB fun T hT => .inl hT)⟩
  clear s5 f5
  go_wp2_with fail
  go_end0
  exact ⟨rfl, K.out⟩
end Go.Proofs.Ytahbgafjljfndaa
