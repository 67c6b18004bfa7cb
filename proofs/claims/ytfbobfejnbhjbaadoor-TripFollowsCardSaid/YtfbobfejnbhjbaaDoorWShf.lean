/-
  Clone of lists of calls, Shift of package call and of its reference: what each call hands back; nothing that existed before the call has changed behind it. Condition: lists of at most 1000000 calls.
-/
import Derived.Test.YtfbobfejnbhjbaaDoorWSt
namespace Go.Proofs.YtfbobfejnbhjbaaDoor
open Go.RowKit

/-- A call hands back a slice of its own with these calls. -/
abbrev GivesC (f : FuncId) (args : Array Value) (w : World) (l : List Cl) : Prop :=
  Calls Tryd.prog f args w fun e w' => ∃ v', e = .returned v' ∧ OwnC w' w.heap.size v' l ∧ Below w.heap.size w w'
/-! ### The two times of a call stored -/
theorem fl_times : ∀ (l : List Cl) (i : Nat) (s a d : Int) (o u : Bool) (x y : Int), l[i]? = some (s, a, d, o, u) → ((fl cc l).set (i * 5 + 1) (.int .i64 x)).set (i * 5 + 2) (.int .i64 y) = fl cc (l.set i (s, x, y, o, u))
  | [], i, _, _, _, _, _, _, _, h => by simp at h
  | b :: r, 0, s, a, d, o, u, x, y, h => by
    simp at h
    subst h
    rw [fl_cons, List.set_cons_zero, fl_cons]
    rfl
  | b :: r, i + 1, s, a, d, o, u, x, y, h => by
    rw [List.getElem?_cons_succ] at h
    rw [List.set_cons_succ, fl_cons, fl_cons, ← fl_times r i s a d o u x y h]
    rw [show (i + 1) * 5 + 1 = (i * 5 + 1) + 1 + 1 + 1 + 1 + 1 by omega, show (i + 1) * 5 + 2 = (i * 5 + 2) + 1 + 1 + 1 + 1 + 1 by omega]
    rfl
/-- What a round of Shift finds and leaves. -/
theorem times_put {w : World} {base g c n : Nat} {l : List Cl} (hl : l.length = n) (h : OwnC w base (.slice (some ⟨g, 0, none⟩) n c) l) {i : Nat} {s a d : Int} {o u : Bool} (hx : l[i]? = some (s, a, d, o, u)) (x y : Int) {w8 : World} (hw8 : w.setCell ⟨g, i * 5 + 1, none⟩ (.int .i64 x) = w8) :
    w.cell? ⟨g, i * 5 + 1, none⟩ = some (.int .i64 a) ∧ w.frozen? ⟨g, i * 5 + 1, none⟩ = false ∧ w8.cell? ⟨g, i * 5 + 2, none⟩ = some (.int .i64 d) ∧ w8.frozen? ⟨g, i * 5 + 2, none⟩ = false ∧
      OwnC (w8.setCell ⟨g, i * 5 + 2, none⟩ (.int .i64 y)) base (.slice (some ⟨g, 0, none⟩) n c) (l.set i (s, x, y, o, u)) := by
  subst hl
  subst hw8
  have hi := (List.getElem?_eq_some_iff.1 hx).1
  have h1 := (World.ownsRow.stored h (i * 5 + 1) (.int .i64 x)).1
  have h2 := (World.ownsRow.stored h1 (i * 5 + 2) (.int .i64 y)).1
  rw [fl_times l i s a d o u x y hx] at h2
  refine ⟨?_, World.ownsRow.frozenAt h _, ?_, World.ownsRow.frozenAt h1 _, ?_⟩
  · rw [World.ownsRow.cellAt h _ (by omega)]; exact fl_at cc_len hx 1 (by omega)
  · rw [World.ownsRow.cellAt h1 _ (by omega), List.getElem?_set_ne (by omega)]; exact fl_at cc_len hx 2 (by omega)
  · show World.ownsRow _ base _ 5 _ (l.set i (s, x, y, o, u)).length (fl cc (l.set i (s, x, y, o, u)))
    rw [List.length_set]
    exact h2
/-! ### The reference's: each call in a box of its own -/
theorem five_cells {w : World} {B : Nat} {x0 x1 x2 x3 x4 : Value} {T : TypeId} (h : w.heap[B]? = some (.cells #[x0, x1, x2, x3, x4] T (0, 0))) :
    (w.cell? ⟨B, 0, none⟩ = some x0 ∧ w.cell? ⟨B, 1, none⟩ = some x1 ∧ w.cell? ⟨B, 2, none⟩ = some x2 ∧ w.cell? ⟨B, 3, none⟩ = some x3 ∧ w.cell? ⟨B, 4, none⟩ = some x4) ∧ w.frozen? ⟨B, 1, none⟩ = false ∧ w.frozen? ⟨B, 2, none⟩ = false :=
  ⟨⟨by rw [cell_of_row _ _ 0 _ _ _ h]; rfl, by rw [cell_of_row _ _ 1 _ _ _ h]; rfl, by rw [cell_of_row _ _ 2 _ _ _ h]; rfl, by rw [cell_of_row _ _ 3 _ _ _ h]; rfl, by rw [cell_of_row _ _ 4 _ _ _ h]; rfl⟩, frozen_of_row _ _ 1 _ _ h, frozen_of_row _ _ 2 _ _ h⟩
theorem box_times {w w8 w9 : World} {B : Nat} {x0 x1 x2 x3 x4 y1 y2 : Value} {T : TypeId} (h : w.heap[B]? = some (.cells #[x0, x1, x2, x3, x4] T (0, 0))) (h8 : w.setCell ⟨B, 1, none⟩ y1 = w8) (h9 : w8.setCell ⟨B, 2, none⟩ y2 = w9) :
    w8.heap[B]? = some (.cells #[x0, y1, x2, x3, x4] T (0, 0)) ∧ w9.heap[B]? = some (.cells #[x0, y1, y2, x3, x4] T (0, 0)) ∧ w9.heap.size = w.heap.size ∧ (∀ j, j ≠ B → w9.heap[j]? = w.heap[j]?) ∧ ∀ base w0, base ≤ B → Below base w0 w → Below base w0 w9 := by
  subst h8
  subst h9
  refine ⟨?_, ?_, by simp [World.setCell], fun j hj => ?_, fun base w0 hb b => (b.setCell (p := ⟨B, 1, none⟩) hb _).setCell (p := ⟨B, 2, none⟩) hb _⟩
  · simp [World.setCell, Array.getElem?_modify, h]
  · simp [World.setCell, Array.getElem?_modify, h]
  · rw [Below.heap_setCell _ _ _ _ (by exact hj), Below.heap_setCell _ _ _ _ (by exact hj)]
end Go.Proofs.YtfbobfejnbhjbaaDoor
