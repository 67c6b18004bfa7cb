/-
  What the law HeapPlays keeps from call to call: the heap holds the reference's elements, numbered as they came. Condition: none beyond each theorem's own hypotheses.
-/
import Derived.Test.YtnmomkldlajimaaHOpen
import Derived.Test.YtnmomkldlajimaaHLaw
namespace Go.Proofs.Ytnmomkldlajimaa
open Go.RowKit

/-- The heap in block B and the list rv hold the same elements. -/
def PlayR (m : Int) (B : Nat) (w : World) (k : Nat) (rv : Value) (r : List Pr) (wr : World) : Prop :=
  ∃ (R l' : List (Pr × Nat)) (n : Nat), R.map (·.1) = r ∧ St wr B (fnM m) l' n ∧ Hp (lessM m) l' ∧ l'.Perm R ∧ Inc R ∧ (∀ a ∈ R, a.2 < n) ∧ n ≤ k ∧ r.length ≤ n ∧ OwnP wr w.heap.size rv r ∧ Below w.heap.size w wr
theorem PlayR.below {m : Int} {B k : Nat} {w wr w' : World} {rv : Value} {r : List Pr} (h : PlayR m B w k rv r wr) (hb : Below wr.heap.size wr w') : PlayR m B w k rv r w' := by
  obtain ⟨R, l', n, h1, h2, h3, h4, h5, h6, h7, h7', h8, h9⟩ := h
  exact ⟨R, l', n, h1, h2.below hb, h3, h4, h5, h6, h7, h7', OwnG.below h8 hb, h9.trans (hb.mono h9.size)⟩
theorem PlayR.more {m : Int} {B k : Nat} {w wr : World} {rv : Value} {r : List Pr} (h : PlayR m B w k rv r wr) : PlayR m B w (k + 1) rv r wr := by
  obtain ⟨R, l', n, h1, h2, h3, h4, h5, h6, h7, h7', h8⟩ := h
  exact ⟨R, l', n, h1, h2, h3, h4, h5, h6, by omega, h7', h8⟩
theorem PlayR.ok {m : Int} {B k : Nat} {w wr : World} {rv : Value} {r : List Pr} (h : PlayR m B w k rv r wr) : ∀ a ∈ r, Ok2 a := by
  obtain ⟨R, l', n, h1, h2, h3, h4, h5, h6, h7, h8⟩ := h
  intro a ha
  rw [← h1] at ha
  obtain ⟨e, he, rfl⟩ := List.mem_map.1 ha
  exact h2.1 e (h4.symm.subset he)
theorem PlayR.len {m : Int} {B k : Nat} {w wr : World} {rv : Value} {r : List Pr} (h : PlayR m B w k rv r wr) : r.length ≤ k := by
  obtain ⟨R, l', n, h1, h2, h3, h4, h5, h6, h7, h7', h8⟩ := h
  omega
/-- What Len says. -/
theorem PlayR.count {m : Int} {B k : Nat} {w wr : World} {rv : Value} {r : List Pr} (h : PlayR m B w k rv r wr) : Calls Try.prog 20 #[.pointer (some ⟨B, 0, none⟩)] wr fun e w' => e = .returned (.int .i64 ((r.length : Nat) : Int)) ∧ wr = w' := by
  obtain ⟨R, l', n, h1, h2, h3, h4, h5⟩ := h
  have e : r.length = l'.length := by rw [← h1, List.length_map, h4.length_eq]
  have := len_any B n l' wr h2
  rw [← e] at this
  exact this
/-- Push. -/
theorem PlayR.push {m : Int} {B k : Nat} (o : IsOrd (lessM m)) {R l' : List (Pr × Nat)} {n : Nat} {r : List Pr} {x : Pr} {w w2 w3 : World} {rv v1 : Value} (h1 : R.map (·.1) = r) (h3 : Hp (lessM m) l') (h4 : l'.Perm R) (h5 : Inc R) (h6 : ∀ a ∈ R, a.2 < n) (h7 : n ≤ k) (h8 : r.length ≤ n)
    (s : St w2 B (fnM m) (pushH (lessM m) l' n x) (n + 1)) (ow : OwnP w2 w.heap.size rv r) (own : OwnP w3 w.heap.size v1 (r ++ [x])) (g : w2.grownBy w3 rv.ownBlock) (hb : Below w.heap.size w w3) : PlayR m B w (k + 1) v1 (r ++ [x]) w3 := by
  refine ⟨R ++ [(x, n)], pushH (lessM m) l' n x, n + 1, by rw [List.map_append, h1]; rfl, s.grown ow not_ht g, push_heap o h3 n x, (push_perm _ _ _ _).trans (h4.append_right _), h5.snoc x n h6, fun a ha => ?_, by omega, by simp; omega, own, hb⟩
  rcases List.mem_append.1 ha with ha | ha
  · have := h6 a ha; omega
  · simp at ha; subst ha; exact Nat.lt_succ_self n
/-- Pop of a heap that holds elements. -/
theorem PlayR.pop {m : Int} {B k i : Nat} (o : IsOrd (lessM m)) {R l' : List (Pr × Nat)} {n : Nat} {r : List Pr} {a : Pr × Nat} {w w2 w3 : World} {v1 : Value} (h1 : R.map (·.1) = r) (h3 : Hp (lessM m) l') (h4 : l'.Perm R) (h5 : Inc R) (h6 : ∀ a ∈ R, a.2 < n) (h7 : n ≤ k) (h8 : r.length ≤ n) (hi : firstI (lessM m) r = i) (ha : l'[0]? = some a)
    (s : St w2 B (fnM m) (popH (lessM m) l') n) (bw : Below w2.heap.size w2 w3) (own : OwnP w3 w2.heap.size v1 (r.eraseIdx i)) (hw : Below w.heap.size w w2) : PlayR m B w (k + 1) v1 (r.eraseIdx i) w3 := by
  have hl : 0 < (R.map (·.1)).length := by
    rw [List.length_map, ← h4.length_eq]
    exact (List.getElem?_eq_some_iff.1 ha).1
  have hf := firstI_is o hl
  obtain ⟨_, q2⟩ := root_first o h3 h4 h5 hf ha
  rw [h1, hi] at q2
  exact ⟨R.eraseIdx i, popH (lessM m) l', n, by rw [map_erase, h1], s.below bw, pop_heap o h3, q2, h5.erase i, fun b hb => h6 b (List.mem_of_mem_eraseIdx hb), by omega, Nat.le_trans (List.length_eraseIdx_le _ _) h8, own.down hw.size, hw.trans (bw.mono hw.size)⟩
/-- What stands first. -/
theorem play_first {m : Int} (o : IsOrd (lessM m)) {R l' : List (Pr × Nat)} {r : List Pr} {a : Pr × Nat} {i : Nat} (h1 : R.map (·.1) = r) (h3 : Hp (lessM m) l') (h4 : l'.Perm R) (h5 : Inc R) (hi : firstI (lessM m) r = i) (ha : l'[0]? = some a) : r[i]? = some a.1 := by
  have hl : 0 < (R.map (·.1)).length := by
    rw [List.length_map, ← h4.length_eq]
    exact (List.getElem?_eq_some_iff.1 ha).1
  obtain ⟨q1, _⟩ := root_first o h3 h4 h5 (firstI_is o hl) ha
  rw [← hi, ← h1, List.getElem?_map, q1]
  rfl
/-- The heap is empty. -/
theorem PlayR.none {m : Int} {B k n : Nat} {w w3 : World} {v1 : Value} (h7 : n ≤ k) (s : St w3 B (fnM m) [] n) (own : OwnP w3 w.heap.size v1 []) (hw : Below w.heap.size w w3) : PlayR m B w k v1 [] w3 :=
  ⟨[], [], n, rfl, s, Hp.nil, List.Perm.refl _, List.Pairwise.nil, (fun _ h => by cases h), h7, Nat.zero_le _, own, hw⟩
theorem play_drain {m : Int} (o : IsOrd (lessM m)) {R l' : List (Pr × Nat)} {r : List Pr} (h1 : R.map (·.1) = r) (h3 : Hp (lessM m) l') (h4 : l'.Perm R) (h5 : Inc R) : drainH (lessM m) l' = selR (lessM m) r := by
  rw [drain_sel o l' h3 R h4 h5, h1]
/-- A call among those that came in. -/
theorem LstG.op {w : World} {v : Value} {l : List (Int × Pr)} (h : LstG oc w v l) {i : Nat} {a : Int × Pr} (ha : l[i]? = some a) : ∃ b o c, v = .slice (some ⟨b, o, none⟩) l.length c ∧ b < w.heap.size ∧ w.cell? ⟨b, o + i * 3, none⟩ = some (.int .i64 a.1) ∧ w.cell? ⟨b, o + i * 3 + 1, none⟩ = some (.int .i64 a.2.1) ∧ w.cell? ⟨b, o + i * 3 + 2, none⟩ = some (.int .i64 a.2.2) := by
  obtain ⟨A, c, hv, _, _, hx⟩ := h
  have hi := (List.getElem?_eq_some_iff.1 ha).1
  obtain ⟨b, o, rfl, hb, hc⟩ := hx (by omega)
  refine ⟨b, o, c, hv, hb, hc _ _ (fl_at oc_len ha 0 (by omega)), ?_, ?_⟩
  · have := hc _ _ (fl_at oc_len ha 1 (by omega))
    rwa [← Nat.add_assoc] at this
  · have := hc _ _ (fl_at oc_len ha 2 (by omega))
    rwa [← Nat.add_assoc] at this
theorem five (d : Int) : d = 0 ∨ ((d == 0) = false ∧ d = 1) ∨ ((d == 0) = false ∧ (d == 1) = false ∧ d = 2) ∨ ((d == 0) = false ∧ (d == 1) = false ∧ (d == 2) = false ∧ d = 3) ∨ ((d == 0) = false ∧ (d == 1) = false ∧ (d == 2) = false ∧ (d == 3) = false) := by
  by_cases h0 : d = 0
  · exact .inl h0
  by_cases h1 : d = 1
  · exact .inr (.inl ⟨beq_false h0, h1⟩)
  by_cases h2 : d = 2
  · exact .inr (.inr (.inl ⟨beq_false h0, beq_false h1, h2⟩))
  by_cases h3 : d = 3
  · exact .inr (.inr (.inr (.inl ⟨beq_false h0, beq_false h1, beq_false h2, h3⟩)))
  · exact .inr (.inr (.inr (.inr ⟨beq_false h0, beq_false h1, beq_false h2, beq_false h3⟩)))
end Go.Proofs.Ytnmomkldlajimaa
