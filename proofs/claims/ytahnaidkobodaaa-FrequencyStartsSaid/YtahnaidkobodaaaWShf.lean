/-
  Clone of lists of calls, Shift of package call and of its reference: what each call hands back; nothing that existed before the call has changed behind it. Condition: lists of at most 1000000 calls.
-/
import Derived.Test.YtahnaidkobodaaaWSt
namespace Go.Proofs.Ytahnaidkobodaaa
open Go.RowKit

/-- A call hands back a slice of its own with these calls. -/
abbrev GivesC (f : FuncId) (args : Array Value) (w : World) (l : List Cl) : Prop :=
  Calls Try.prog f args w fun e w' => ∃ v', e = .returned v' ∧ OwnC w' w.heap.size v' l ∧ Below w.heap.size w w'
theorem clone_any (v : Value) (l : List Cl) (hl : l.length ≤ 1000000) (w : World) (h : LstC w v l) : GivesC 45 #[v] w l := by
  have hh := h
  obtain ⟨A, c, rfl, -, hn, -⟩ := hh
  cases A with
  | none =>
    obtain rfl := hn rfl
    have hl0 : l.length = 0 := by obtain ⟨_, _, hv, h1, _⟩ := h; cases hv; omega
    have hl1 : l = [] := List.length_eq_zero_iff.1 hl0
    subst hl1
    clear h hl0 hn
    simp only [List.length_nil]
    have SN : ∀ W, (binOp BinOp.eql 37 (.slice none 0 0) (.slice none 0 0)).run Try.prog W = .ok (.bool true) W := fun W => slice_is_nil 37 none 0 0 Try.underlying37 W
    go_enter Try.func45, Try.ntmps45
    go_wp2_with fail
    go_ret
    exact ⟨_, rfl, OwnG.nil _ _ _ _ _, Below.refl _ _⟩
  | some a =>
    have H := Lib.hid h
    clear h hn
    go_enter Try.func45, Try.ntmps45
    have o0 : OwnC (w.alloc (.cells #[] 46 (0, 0))) w.heap.size (.slice (some ⟨w.heap.size, 0, none⟩) 0 0) [] := World.ownsRow_lit w #[] 0 (Nat.le_refl _) (by unfold maxLen; omega) rfl
    have O0 := Lib.hid o0
    have SN : ∀ W, (binOp BinOp.eql 37 (.slice (some a) l.length c) (.slice none 0 0)).run Try.prog W = .ok (.bool false) W := fun W => slice_is_nil 37 (some a) l.length c Try.underlying37 W
    clear o0
    go_wp2_with (at_builtin; refine appG_list cc_len cc_one (by decide) Try.underlying37 info_cc rfl (by decide) _ rfl (.tmp 5) (.tmp 6) rfl w.heap.size _ [] l rfl O0.out _ rfl (H.out.below ((Below.refl _ _).alloc (Nat.le_refl _) _)) (by simp) (by simp; omega) ?_)
    intro v1 w2 own1 b2 _ _
    have R : Hid (OwnC w2 w.heap.size v1 l ∧ Below w.heap.size w w2) := ⟨own1, ((Below.refl _ _).alloc (Nat.le_refl _) _).trans b2⟩
    clear own1 b2
    go_wp2_with fail
    go_ret
    exact ⟨_, rfl, R.out⟩

/-! ### The two times of a call stored -/
theorem fl_times : ∀ (l : List Cl) (i : Nat) (s a d : Int) (o u : Bool) (x y : Int), l[i]? = some (s, a, d, o, u) → ((fl cc l).set (i * 5 + 1) (.int .i64 x)).set (i * 5 + 2) (.int .i64 y) = fl cc (l.set i (s, x, y, o, u))
  | [], i, _, _, _, _, _, _, _, h => by simp at h
  | b :: r, 0, s, a, d, o, u, x, y, h => by
    simp at h
    subst h
    rw [fl_cons, List.set_cons_zero, fl_cons]
    rfl
  | b :: r, i + 1, s, a, d, o, u, x, y, h => by
    rw [List.getElem?_cons_succ] at h
    rw [List.set_cons_succ, fl_cons, fl_cons, ← fl_times r i s a d o u x y h]
    rw [show (i + 1) * 5 + 1 = (i * 5 + 1) + 1 + 1 + 1 + 1 + 1 by omega, show (i + 1) * 5 + 2 = (i * 5 + 2) + 1 + 1 + 1 + 1 + 1 by omega]
    rfl
/-- What a round of Shift finds and leaves. -/
theorem times_put {w : World} {base g c n : Nat} {l : List Cl} (hl : l.length = n) (h : OwnC w base (.slice (some ⟨g, 0, none⟩) n c) l) {i : Nat} {s a d : Int} {o u : Bool} (hx : l[i]? = some (s, a, d, o, u)) (x y : Int) {w8 : World} (hw8 : w.setCell ⟨g, i * 5 + 1, none⟩ (.int .i64 x) = w8) :
    w.cell? ⟨g, i * 5 + 1, none⟩ = some (.int .i64 a) ∧ w.frozen? ⟨g, i * 5 + 1, none⟩ = false ∧ w8.cell? ⟨g, i * 5 + 2, none⟩ = some (.int .i64 d) ∧ w8.frozen? ⟨g, i * 5 + 2, none⟩ = false ∧
      OwnC (w8.setCell ⟨g, i * 5 + 2, none⟩ (.int .i64 y)) base (.slice (some ⟨g, 0, none⟩) n c) (l.set i (s, x, y, o, u)) := by
  subst hl
  subst hw8
  have hi := (List.getElem?_eq_some_iff.1 hx).1
  have h1 := (World.ownsRow.stored h (i * 5 + 1) (.int .i64 x)).1
  have h2 := (World.ownsRow.stored h1 (i * 5 + 2) (.int .i64 y)).1
  rw [fl_times l i s a d o u x y hx] at h2
  refine ⟨?_, World.ownsRow.frozenAt h _, ?_, World.ownsRow.frozenAt h1 _, ?_⟩
  · rw [World.ownsRow.cellAt h _ (by omega)]; exact fl_at cc_len hx 1 (by omega)
  · rw [World.ownsRow.cellAt h1 _ (by omega), List.getElem?_set_ne (by omega)]; exact fl_at cc_len hx 2 (by omega)
  · show World.ownsRow _ base _ 5 _ (l.set i (s, x, y, o, u)).length (fl cc (l.set i (s, x, y, o, u)))
    rw [List.length_set]
    exact h2
set_option maxRecDepth 100000 in
set_option maxHeartbeats 4000000 in
theorem kshift_any (v : Value) (l : List Cl) (hl : l.length ≤ 1000000) (z : Int) (w : World) (h : LstC w v l) : GivesC 34 #[v, .int .i64 z] w (shC z l) := by
  have C := Lib.hid (clone_any v l hl w h)
  clear h
  go_enter Try.func34, Try.ntmps34
  go_wp2_with fail
  refine C.out.mono ?_
  rintro e w1 ⟨v1, rfl, o1, b1⟩
  have hh := o1
  obtain ⟨A, c, rfl, -, -, hA⟩ := ownK_shape hh
  have HA := Lib.hid hA
  have O1 := Lib.hid o1
  have B1 := Lib.hid b1
  clear hh hA o1 b1 C
  go_wp2_with fail
  go_loopw [11] (fun i wr => ∃ k : Nat, i = .int .i64 (k : Int) ∧ k ≤ l.length ∧ Hid (OwnC wr w.heap.size (.slice A l.length c) (mixC z l k)) ∧ Hid (Below w.heap.size w wr)) (fun i _ => l.length - (intOf i).toNat)
  case atStart => exact ⟨0, rfl, Nat.zero_le _, Lib.hid O1.out, Lib.hid B1.out⟩
  case round =>
    clear O1 B1
    obtain ⟨k, rfl, hk, HO, HB⟩ := hrel
    by_cases hlt : k < l.length
    · obtain ⟨g, rfl, hg, -, -⟩ := HA.out (by omega)
      obtain ⟨⟨s, a, d, o, u⟩, hx⟩ := at_lt hlt
      have gk : (k : Int) < (l.length : Int) := by omega
      obtain ⟨w8, hw8⟩ : ∃ W, wr.setCell ⟨g, k * 5 + 1, none⟩ (.int .i64 (wrap64 (a + z))) = W := ⟨_, rfl⟩
      obtain ⟨r1, f1, r2, f2, own⟩ := times_put (mixC_len z l k) HO.out (mixC_at hx) (wrap64 (a + z)) (wrap64 (d + z)) hw8
      have hset : (mixC z l k).set k (s, wrap64 (a + z), wrap64 (d + z), o, u) = mixC z l (k + 1) := mixC_set hx
      rw [hset] at own
      have O := Lib.hid own
      have B : Hid (Below w.heap.size w (w8.setCell ⟨g, k * 5 + 2, none⟩ (.int .i64 (wrap64 (d + z))))) := by
        rw [← hw8]
        exact (HB.out.setCell (p := ⟨g, k * 5 + 1, none⟩) hg _).setCell (p := ⟨g, k * 5 + 2, none⟩) hg _
      clear own hx hset HO HB hg
      go_wp2_with fail
      go_roundw
      case rel => exact ⟨k + 1, by go_num, by omega, O, B⟩
      case measure => simp [intOf]; omega
    · have d : decide (k < l.length) = false := by rw [decide_eq_false_iff_not]; exact hlt
      have O : Hid (OwnC wr w.heap.size (.slice A l.length c) (shC z l)) := by
        have := HO.out
        rw [mixC_all (by omega)] at this
        exact this
      clear hlt HO
      go_wp2_with fail
      go_ret
      exact ⟨_, rfl, O.out, HB.out⟩
/-! ### The reference's: each call in a box of its own -/
theorem five_cells {w : World} {B : Nat} {x0 x1 x2 x3 x4 : Value} {T : TypeId} (h : w.heap[B]? = some (.cells #[x0, x1, x2, x3, x4] T (0, 0))) :
    (w.cell? ⟨B, 0, none⟩ = some x0 ∧ w.cell? ⟨B, 1, none⟩ = some x1 ∧ w.cell? ⟨B, 2, none⟩ = some x2 ∧ w.cell? ⟨B, 3, none⟩ = some x3 ∧ w.cell? ⟨B, 4, none⟩ = some x4) ∧ w.frozen? ⟨B, 1, none⟩ = false ∧ w.frozen? ⟨B, 2, none⟩ = false :=
  ⟨⟨by rw [cell_of_row _ _ 0 _ _ _ h]; rfl, by rw [cell_of_row _ _ 1 _ _ _ h]; rfl, by rw [cell_of_row _ _ 2 _ _ _ h]; rfl, by rw [cell_of_row _ _ 3 _ _ _ h]; rfl, by rw [cell_of_row _ _ 4 _ _ _ h]; rfl⟩, frozen_of_row _ _ 1 _ _ h, frozen_of_row _ _ 2 _ _ h⟩
theorem box_times {w w8 w9 : World} {B : Nat} {x0 x1 x2 x3 x4 y1 y2 : Value} {T : TypeId} (h : w.heap[B]? = some (.cells #[x0, x1, x2, x3, x4] T (0, 0))) (h8 : w.setCell ⟨B, 1, none⟩ y1 = w8) (h9 : w8.setCell ⟨B, 2, none⟩ y2 = w9) :
    w8.heap[B]? = some (.cells #[x0, y1, x2, x3, x4] T (0, 0)) ∧ w9.heap[B]? = some (.cells #[x0, y1, y2, x3, x4] T (0, 0)) ∧ w9.heap.size = w.heap.size ∧ (∀ j, j ≠ B → w9.heap[j]? = w.heap[j]?) ∧ ∀ base w0, base ≤ B → Below base w0 w → Below base w0 w9 := by
  subst h8
  subst h9
  refine ⟨?_, ?_, by simp [World.setCell], fun j hj => ?_, fun base w0 hb b => (b.setCell (p := ⟨B, 1, none⟩) hb _).setCell (p := ⟨B, 2, none⟩) hb _⟩
  · simp [World.setCell, Array.getElem?_modify, h]
  · simp [World.setCell, Array.getElem?_modify, h]
  · rw [Below.heap_setCell _ _ _ _ (by exact hj), Below.heap_setCell _ _ _ _ (by exact hj)]
end Go.Proofs.Ytahnaidkobodaaa
