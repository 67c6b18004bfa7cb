/-
  Two footpaths compared as whole structs; the functions that are handed to DeleteFunc and CompactFunc. Condition: none beyond each theorem's own hypotheses.
-/
import Derived.Test.YtibakhobgfiklaaFpU
namespace Go.Proofs.Ytibakhobgfiklaa
open Go.RowKit Go.Sort

theorem gq_fp : Try.prog.eqGuardType Try.prog.depth 42 = false := by kernel_rfl
theorem eqIn_fp (a b s a' b' s' : Int) (f f' : Bool) (W : World) : (Op.equalIn 10000 42 (fpV a b s f) (fpV a' b' s' f')).run Try.prog W = .ok (decide (a = a' ∧ b = b' ∧ s = s' ∧ f = f')) W := by
  have u3 := Try.underlying3
  have a3 := Try.isAgg3
  have z3 := Try.sizeOf3
  have u4 := Try.underlying4
  have a4 := Try.isAgg4
  have z4 := Try.sizeOf4
  have hS : Try.prog.underlying 42 = some (.struct (Try.prog.fieldsOf 42)) := by kernel_rfl
  have hp : Try.prog.stoodInHeld 42 = false := by kernel_rfl
  rw [show (10000 : Nat) = 9999 + 1 from rfl, run_equalIn_agg W 9999 42 _ _ hS hp]
  simp only [Program.fieldsOf, Try.underlying42]
  by_cases h1 : a = a'
  · by_cases h2 : b = b'
    · by_cases h3 : s = s'
      · by_cases h4 : f = f'
        · subst h1 h2 h3 h4
          go_simp
        · subst h1 h2 h3
          cases f <;> cases f' <;> first | (exfalso; exact h4 rfl) | go_simp
      · have t3 := beq_false h3
        subst h1 h2
        go_simp
    · have t2 := beq_false h2
      subst h1
      go_simp
  · have t1 := beq_false h1
    go_simp
theorem eql_fp (a b s a' b' s' : Int) (f f' q : Bool) (h : decide (a = a' ∧ b = b' ∧ s = s' ∧ f = f') = q) (W : World) : (binOp .eql 42 (fpV a b s f) (fpV a' b' s' f')).run Try.prog W = .ok (.bool q) W := by
  rw [run_eql_struct, eqIn_fp, h]
  rfl
theorem neq_fp (a b s a' b' s' : Int) (f f' q : Bool) (h : (!decide (a = a' ∧ b = b' ∧ s = s' ∧ f = f')) = q) (W : World) : (binOp .neq 42 (fpV a b s f) (fpV a' b' s' f')).run Try.prog W = .ok (.bool q) W := by
  rw [run_neq_struct, eqIn_fp, ← h]
  rfl
theorem set_cell_same {w : World} {b i : Nat} {v : Value} {cs : Array Value} {T : TypeId} {fr : Nat × Nat} (h : w.heap[b]? = some (.cells cs T fr)) (hc : cs.setIfInBounds i v = cs) : w.setCell ⟨b, i, none⟩ v = w := by
  unfold World.setCell
  cases w with
  | mk hp tape drawn os out =>
    simp only at h ⊢
    congr 1
    refine Array.ext_getElem? fun j => ?_
    rw [Array.getElem?_modify]
    split
    · next e =>
      subst e
      rw [h]
      simp [hc]
    · rfl
theorem box_last {w w7 : World} {a b s : Int} {f : Bool} (h : w.alloc (boxF a b s f) = w7) : w7.frozen? ⟨w.heap.size, 3, none⟩ = false ∧ w7.setCell ⟨w.heap.size, 3, none⟩ (.bool f) = w7 := by
  subst h
  exact ⟨frozen_of_row _ _ 3 _ _ (heap_alloc_new _ _), set_cell_same (heap_alloc_new _ _) rfl⟩
/-- The function that is handed to DeleteFunc: whether a footpath does not count. -/
theorem delc_any (x : Fp) (B : Nat) (sf : Bool) (w : World) (h : w.cell? ⟨B, 0, none⟩ = some (.bool sf)) : Calls Try.prog 66 #[fpV x.1 x.2.1 x.2.2.1 x.2.2.2, .pointer (some ⟨B, 0, none⟩)] w fun e w' => e = .returned (.bool (!useP sf x)) ∧ Below w.heap.size w w' := by
  obtain ⟨a, b, s, f⟩ := x
  show Calls Try.prog 66 #[fpV a b s f, .pointer (some ⟨B, 0, none⟩)] w fun e w' => e = .returned (.bool (!(f || !sf))) ∧ Below w.heap.size w w'
  obtain ⟨w7, hw7⟩ : ∃ W, w.alloc (boxF a b s f) = W := ⟨_, rfl⟩
  obtain ⟨b7, p0, p1, p2, p3, s7, c7⟩ := box_fp hw7
  have hB := World.block_lt_of_cell? _ _ h
  have m0 := (b7.cell (p := ⟨B, 0, none⟩) hB).trans h
  have B7 := Lib.hid b7
  have C := Lib.hid (usable_any a b s f sf w7)
  generalize (f || !sf) = q at C ⊢
  clear b7 c7 s7 h
  go_enter Try.func66, Try.ntmps66
  go_wp2_with fail
  refine C.out.mono ?_
  rintro e w8 ⟨rfl, b8⟩
  have B8 := Lib.hid (B7.out.trans (b8.mono B7.out.size))
  clear b8 C hw7
  cases q
  all_goals
    go_wp2_with fail
    go_ret
    exact ⟨ret_bool rfl, B8.out⟩
/-- The function that is handed to CompactFunc: whether two footpaths lead from the same stop to the same stop. -/
theorem ends_any (x y : Fp) (w : World) : Calls Try.prog 67 #[fpV x.1 x.2.1 x.2.2.1 x.2.2.2, fpV y.1 y.2.1 y.2.2.1 y.2.2.2] w fun e w' => e = .returned (.bool (decide (x.1 = y.1 ∧ x.2.1 = y.2.1))) ∧ Below w.heap.size w w' := by
  obtain ⟨a, b, s, f⟩ := x
  obtain ⟨a', b', s', f'⟩ := y
  show Calls Try.prog 67 #[fpV a b s f, fpV a' b' s' f'] w fun e w' => e = .returned (.bool (decide (a = a' ∧ b = b'))) ∧ Below w.heap.size w w'
  obtain ⟨w7, hw7⟩ : ∃ W, w.alloc (boxF a b s f) = W := ⟨_, rfl⟩
  obtain ⟨b7, p0, p1, p2, -, s7, c7⟩ := box_fp hw7
  obtain ⟨w8, hw8⟩ : ∃ W, w7.alloc (boxF a' b' s' f') = W := ⟨_, rfl⟩
  obtain ⟨b8, q0, q1, q2, -, s8, c8⟩ := box_fp hw8
  obtain ⟨p0, p1, p2, -⟩ := row_fp ((b8.block _ s7).trans c7)
  have z7 : w7.heap.size = w.heap.size + 1 := by rw [← hw7]; simp
  rw [z7] at q0 q1 q2
  have B8 := Lib.hid (b7.trans (b8.mono b7.size))
  clear b7 b8 c7 c8 s7 s8
  by_cases h1 : a = a'
  · have t1 := beq_true h1
    by_cases h2 : b = b'
    · have t2 := beq_true h2
      have E := Lib.hid (decide_eq_true (p := a = a' ∧ b = b') ⟨h1, h2⟩)
      clear h1 h2
      go_enter Try.func67, Try.ntmps67
      go_wp2_with fail
      go_ret
      exact ⟨ret_bool E.out.symm, B8.out⟩
    · have t2 := beq_false h2
      have E := Lib.hid (decide_eq_false (p := a = a' ∧ b = b') (fun h => h2 h.2))
      clear h1 h2
      go_enter Try.func67, Try.ntmps67
      go_wp2_with fail
      go_ret
      exact ⟨ret_bool E.out.symm, B8.out⟩
  · have t1 := beq_false h1
    have E := Lib.hid (decide_eq_false (p := a = a' ∧ b = b') (fun h => h1 h.1))
    clear h1
    go_enter Try.func67, Try.ntmps67
    go_wp2_with fail
    go_ret
    exact ⟨ret_bool E.out.symm, B8.out⟩
/-- .. whether two footpaths are the same but for StepFree. -/
theorem like_any (x y : Fp) (w : World) : Calls Try.prog 39 #[fpV x.1 x.2.1 x.2.2.1 x.2.2.2, fpV y.1 y.2.1 y.2.2.1 y.2.2.2] w fun e w' => e = .returned (.bool (decide (x.1 = y.1 ∧ x.2.1 = y.2.1 ∧ x.2.2.1 = y.2.2.1))) ∧ Below w.heap.size w w' := by
  obtain ⟨a, b, s, f⟩ := x
  obtain ⟨a', b', s', f'⟩ := y
  show Calls Try.prog 39 #[fpV a b s f, fpV a' b' s' f'] w fun e w' => e = .returned (.bool (decide (a = a' ∧ b = b' ∧ s = s'))) ∧ Below w.heap.size w w'
  obtain ⟨q, hq⟩ : ∃ q, decide (a = a' ∧ b = b' ∧ s = s') = q := ⟨_, rfl⟩
  have E := fun W => eql_fp a b s a' b' s' f' f' q (by rw [← hq]; simp) W
  rw [hq]
  have gq := gq_fp
  clear hq
  go_enter Try.func39, Try.ntmps39
  go_wp2_with fail
  go_ret
  exact ⟨ret_bool rfl, (((RowKit.Below.refl _ _).alloc (Nat.le_refl _) _).alloc (by simp) _)⟩
end Go.Proofs.Ytibakhobgfiklaa
