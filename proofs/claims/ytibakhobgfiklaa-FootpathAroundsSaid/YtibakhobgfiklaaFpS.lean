/-
  Footpaths in memory: the cells of a footpath, a footpath put into a box of its own, slices of footpaths that came in or are the call's own: an element read, an element stored. Condition: none beyond each theorem's own hypotheses.
-/
import Derived.Test.YtibakhobgfiklaaMb
import Derived.Test.YtibakhobgfiklaaMa
import Derived.Lib.Hide
import Derived.Lib.QuietBelow
namespace Go.Proofs.Ytibakhobgfiklaa
open Go.RowKit

/-- A footpath as cells. -/
def fe (x : Fp) : List Value := [.int .i64 x.1, .int .i64 x.2.1, .int .i64 x.2.2.1, .bool x.2.2.2]
theorem fe_len (x : Fp) : (fe x).length = 4 := rfl
theorem fe_one (x : Fp) : ∀ u ∈ fe x, u.oneCell' = true := by
  intro u hu
  unfold fe at hu
  simp only [List.mem_cons, List.not_mem_nil, or_false] at hu
  rcases hu with rfl | rfl | rfl | rfl <;> rfl
abbrev LstF := @LstG Fp fe
theorem info_fp : (Try.prog.info? 42).map (fun i => (i.zero, i.size, i.bytes)) = some (some (.agg #[.int .i64 0, .int .i64 0, .int .i64 0, .bool false]), 4, 32) := by kernel_rfl
/-- A row of the call's own whose elements tell footpaths. -/
def fep {α : Type} (pr : α → Fp) (a : α) : List Value := fe (pr a)
theorem fep_len {α : Type} (pr : α → Fp) (a : α) : (fep pr a).length = 4 := rfl
abbrev OwnQ {α : Type} (pr : α → Fp) := @OwnG α (fep pr) 42 4
abbrev OwnF := @OwnG Fp fe 42 4
theorem fl_fep {α : Type} (pr : α → Fp) (l : List α) : fl (fep pr) l = fl fe (l.map pr) := by
  induction l with
  | nil => rfl
  | cons a r ih => rw [fl_cons, List.map_cons, fl_cons, ih]; rfl
theorem OwnQ.own {α : Type} {pr : α → Fp} {w : World} {base : Nat} {v : Value} {l : List α} (h : OwnQ pr w base v l) : OwnF w base v (l.map pr) := by
  unfold OwnQ OwnG at h
  rw [fl_fep] at h
  unfold OwnF OwnG
  rw [List.length_map]
  exact h
theorem OwnF.tell {α : Type} {pr : α → Fp} {w : World} {base : Nat} {v : Value} {l : List α} (h : OwnF w base v (l.map pr)) : OwnQ pr w base v l := by
  unfold OwnF OwnG at h
  rw [List.length_map] at h
  unfold OwnQ OwnG
  rw [fl_fep]
  exact h
/-- The four cells of a footpath. -/
theorem four_at {w : World} {A : Option Addr} {n c : Nat} {l : List Fp} (h : LstF w (.slice A n c) l) {i : Nat} {a b s : Int} {f : Bool} (hs : l[i]? = some (a, b, s, f)) :
    ∃ k o, A = some ⟨k, o, none⟩ ∧ k < w.heap.size ∧ w.cell? ⟨k, o + i * 4, none⟩ = some (.int .i64 a) ∧ w.cell? ⟨k, o + i * 4 + 1, none⟩ = some (.int .i64 b) ∧ w.cell? ⟨k, o + i * 4 + 2, none⟩ = some (.int .i64 s) ∧ w.cell? ⟨k, o + i * 4 + 3, none⟩ = some (.bool f) := by
  obtain ⟨A', c', hv, _, _, hx⟩ := h
  cases hv
  have hi := (List.getElem?_eq_some_iff.1 hs).1
  obtain ⟨k, f, rfl, hb, hcell⟩ := hx (by omega)
  exact ⟨k, f, rfl, hb, hcell (i * 4) _ (by rw [← Nat.add_zero (i * 4), fl_at fe_len hs 0 (by omega)]; rfl), (hcell (i * 4 + 1) _ (by rw [fl_at fe_len hs 1 (by omega)]; rfl) : _), (hcell (i * 4 + 2) _ (by rw [fl_at fe_len hs 2 (by omega)]; rfl) : _), (hcell (i * 4 + 3) _ (by rw [fl_at fe_len hs 3 (by omega)]; rfl) : _)⟩
/-- A footpath in a box; as a value. -/
abbrev boxF (a b s : Int) (f : Bool) : Obj := .cells #[.int .i64 a, .int .i64 b, .int .i64 s, .bool f] 42 (0, 0)
abbrev fpV (a b s : Int) (f : Bool) : Value := .agg #[.int .i64 a, .int .i64 b, .int .i64 s, .bool f]
theorem row_fp {w : World} {k : Nat} {a b s : Int} {f : Bool} (h : w.heap[k]? = some (boxF a b s f)) :
    w.cell? ⟨k, 0, none⟩ = some (.int .i64 a) ∧ w.cell? ⟨k, 1, none⟩ = some (.int .i64 b) ∧ w.cell? ⟨k, 2, none⟩ = some (.int .i64 s) ∧ w.cell? ⟨k, 3, none⟩ = some (.bool f) :=
  ⟨by rw [cell_of_row _ _ 0 _ _ _ h]; rfl, by rw [cell_of_row _ _ 1 _ _ _ h]; rfl, by rw [cell_of_row _ _ 2 _ _ _ h]; rfl, by rw [cell_of_row _ _ 3 _ _ _ h]; rfl⟩
theorem box_fp {w w7 : World} {a b s : Int} {f : Bool} (h : w.alloc (boxF a b s f) = w7) :
    Below w.heap.size w w7 ∧ w7.cell? ⟨w.heap.size, 0, none⟩ = some (.int .i64 a) ∧ w7.cell? ⟨w.heap.size, 1, none⟩ = some (.int .i64 b) ∧ w7.cell? ⟨w.heap.size, 2, none⟩ = some (.int .i64 s) ∧ w7.cell? ⟨w.heap.size, 3, none⟩ = some (.bool f) ∧ w.heap.size < w7.heap.size ∧ w7.heap[w.heap.size]? = some (boxF a b s f) := by
  subst h
  have c7 := heap_alloc_new w (boxF a b s f)
  obtain ⟨h0, h1, h2, h3⟩ := row_fp c7
  exact ⟨(Below.refl _ _).alloc (Nat.le_refl _) _, h0, h1, h2, h3, by simp, c7⟩

/-! ### An element stored -/
section
variable {α : Type} {pr : α → Fp}
theorem fl_put (l : List α) (i : Nat) (a : α) (hi : i < l.length) : ((((fl (fep pr) l).set (i * 4) (.int .i64 (pr a).1)).set (i * 4 + 1) (.int .i64 (pr a).2.1)).set (i * 4 + 2) (.int .i64 (pr a).2.2.1)).set (i * 4 + 3) (.bool (pr a).2.2.2) = fl (fep pr) (l.set i a) := by
  induction l generalizing i with
  | nil => simp at hi
  | cons b r ih =>
    cases i with
    | zero =>
      rw [fl_cons, List.set_cons_zero, fl_cons]
      rfl
    | succ i =>
      rw [List.set_cons_succ, fl_cons, fl_cons, ← ih i (by simpa using hi)]
      rw [show (i + 1) * 4 = i * 4 + 1 + 1 + 1 + 1 by omega, show i * 4 + 1 + 1 + 1 + 1 + 1 = (i * 4 + 1) + 1 + 1 + 1 + 1 by omega, show i * 4 + 1 + 1 + 1 + 1 + 2 = (i * 4 + 2) + 1 + 1 + 1 + 1 by omega, show i * 4 + 1 + 1 + 1 + 1 + 3 = (i * 4 + 3) + 1 + 1 + 1 + 1 by omega]
      rfl
/-- Four cells stored. -/
def put4 (w : World) (g o : Nat) (x : Fp) : World := (((w.setCell ⟨g, o, none⟩ (.int .i64 x.1)).setCell ⟨g, o + 1, none⟩ (.int .i64 x.2.1)).setCell ⟨g, o + 2, none⟩ (.int .i64 x.2.2.1)).setCell ⟨g, o + 3, none⟩ (.bool x.2.2.2)
theorem OwnQ.put {w : World} {base g c n : Nat} {l : List α} (hl : l.length = n) (h : OwnQ pr w base (.slice (some ⟨g, 0, none⟩) n c) l) {i : Nat} (hi : i < n) (a : α) : OwnQ pr (put4 w g (i * 4) (pr a)) base (.slice (some ⟨g, 0, none⟩) n c) (l.set i a) := by
  subst hl
  have h1 := (World.ownsRow.stored h (i * 4) (.int .i64 (pr a).1)).1
  have h2 := (World.ownsRow.stored h1 (i * 4 + 1) (.int .i64 (pr a).2.1)).1
  have h3 := (World.ownsRow.stored h2 (i * 4 + 2) (.int .i64 (pr a).2.2.1)).1
  have h4 := (World.ownsRow.stored h3 (i * 4 + 3) (.bool (pr a).2.2.2)).1
  rw [fl_put l i a hi] at h4
  show World.ownsRow _ base _ 4 _ (l.set i a).length (fl (fep pr) (l.set i a))
  rw [List.length_set]
  exact h4
theorem put4_below {base : Nat} {w0 w : World} {g : Nat} (hg : base ≤ g) (h : Below base w0 w) (o : Nat) (x : Fp) : Below base w0 (put4 w g o x) := (((h.setCell hg _).setCell hg _).setCell hg _).setCell hg _
theorem put4_block (w : World) (g o : Nat) (x : Fp) (j : Nat) (hj : j ≠ g) : (put4 w g o x).heap[j]? = w.heap[j]? := by
  unfold put4
  rw [RowKit.Below.heap_setCell _ _ _ _ hj, RowKit.Below.heap_setCell _ _ _ _ hj, RowKit.Below.heap_setCell _ _ _ _ hj, RowKit.Below.heap_setCell _ _ _ _ hj]
/-- An element's cells, which can be stored into. -/
theorem OwnQ.at {w : World} {base g c n : Nat} {l : List α} (hl : l.length = n) (h : OwnQ pr w base (.slice (some ⟨g, 0, none⟩) n c) l) {i : Nat} {a : α} (ha : l[i]? = some a) :
    w.cell? ⟨g, i * 4, none⟩ = some (.int .i64 (pr a).1) ∧ w.cell? ⟨g, i * 4 + 1, none⟩ = some (.int .i64 (pr a).2.1) ∧ w.cell? ⟨g, i * 4 + 2, none⟩ = some (.int .i64 (pr a).2.2.1) ∧ w.cell? ⟨g, i * 4 + 3, none⟩ = some (.bool (pr a).2.2.2) ∧
      w.frozen? ⟨g, i * 4, none⟩ = false ∧ w.frozen? ⟨g, i * 4 + 1, none⟩ = false ∧ w.frozen? ⟨g, i * 4 + 2, none⟩ = false ∧ w.frozen? ⟨g, i * 4 + 3, none⟩ = false := by
  subst hl
  have hi := (List.getElem?_eq_some_iff.1 ha).1
  rcases h.2 with ⟨h0, -⟩ | ⟨g', c', cur, hv, -, hg, -, -, -, ht⟩
  · cases h0
  · cases hv
    have key : ∀ j, j < 4 → w.cell? ⟨g, i * 4 + j, none⟩ = (fe (pr a))[j]? := by
      intro j hj
      rw [cell_of_row w g (i * 4 + j) cur _ _ hg]
      have := fl_at (fep_len pr) ha j hj
      rw [← ht, List.getElem?_take] at this
      split at this
      · rw [← Array.getElem?_toList]; exact this
      · next hn => exfalso; omega
    have fr : ∀ j, w.frozen? ⟨g, j, none⟩ = false := fun j => by simp [World.frozen?, hg]
    exact ⟨key 0 (by omega), key 1 (by omega), key 2 (by omega), key 3 (by omega), fr _, fr _, fr _, fr _⟩
end
end Go.Proofs.Ytibakhobgfiklaa
