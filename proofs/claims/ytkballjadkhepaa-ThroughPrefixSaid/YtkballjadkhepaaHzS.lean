/-
  Frequencies in memory: the cells of a frequency, a frequency put into a box of its own; the small functions on frequencies and times of the code and of its reference: what each call answers. Condition: none beyond each theorem's own hypotheses.
-/
import Derived.Test.YtkballjadkhepaaTpS
import Derived.Test.YtkballjadkhepaaFrq
import Derived.Lib.Hide
namespace Go.Proofs.Ytkballjadkhepaa
open Go.RowKit

/-- A frequency as cells. -/
def fe (x : Fq) : List Value := [.int .i64 x.1, .int .i64 x.2.1, .int .i64 x.2.2.1, .int .i64 x.2.2.2]
theorem fe_len (x : Fq) : (fe x).length = 4 := rfl
abbrev LstF := @LstG Fq fe
/-- The four cells of a frequency. -/
theorem four_at {w : World} {A : Option Addr} {n c : Nat} {l : List Fq} (h : LstF w (.slice A n c) l) {i : Nat} {t a b v : Int} (hs : l[i]? = some (t, a, b, v)) :
    ∃ k f, A = some ⟨k, f, none⟩ ∧ k < w.heap.size ∧ w.cell? ⟨k, f + i * 4, none⟩ = some (.int .i64 t) ∧ w.cell? ⟨k, f + i * 4 + 1, none⟩ = some (.int .i64 a) ∧ w.cell? ⟨k, f + i * 4 + 2, none⟩ = some (.int .i64 b) ∧ w.cell? ⟨k, f + i * 4 + 3, none⟩ = some (.int .i64 v) := by
  obtain ⟨A', c', hv, _, _, hx⟩ := h
  cases hv
  have hi := (List.getElem?_eq_some_iff.1 hs).1
  obtain ⟨k, f, rfl, hb, hcell⟩ := hx (by omega)
  exact ⟨k, f, rfl, hb, hcell (i * 4) _ (by rw [← Nat.add_zero (i * 4), fl_at fe_len hs 0 (by omega)]; rfl), (hcell (i * 4 + 1) _ (by rw [fl_at fe_len hs 1 (by omega)]; rfl) : _), (hcell (i * 4 + 2) _ (by rw [fl_at fe_len hs 2 (by omega)]; rfl) : _), (hcell (i * 4 + 3) _ (by rw [fl_at fe_len hs 3 (by omega)]; rfl) : _)⟩
/-- A frequency in a box. -/
abbrev boxF (t a b v : Int) : Obj := .cells #[.int .i64 t, .int .i64 a, .int .i64 b, .int .i64 v] 70 (0, 0)
theorem row_fq {w : World} {k : Nat} {t a b v : Int} (h : w.heap[k]? = some (boxF t a b v)) :
    w.cell? ⟨k, 0, none⟩ = some (.int .i64 t) ∧ w.cell? ⟨k, 1, none⟩ = some (.int .i64 a) ∧ w.cell? ⟨k, 2, none⟩ = some (.int .i64 b) ∧ w.cell? ⟨k, 3, none⟩ = some (.int .i64 v) :=
  ⟨by rw [cell_of_row _ _ 0 _ _ _ h]; rfl, by rw [cell_of_row _ _ 1 _ _ _ h]; rfl, by rw [cell_of_row _ _ 2 _ _ _ h]; rfl, by rw [cell_of_row _ _ 3 _ _ _ h]; rfl⟩
theorem box_fq {w w7 : World} {t a b v : Int} (h : w.alloc (boxF t a b v) = w7) :
    Below w.heap.size w w7 ∧ w7.cell? ⟨w.heap.size, 0, none⟩ = some (.int .i64 t) ∧ w7.cell? ⟨w.heap.size, 1, none⟩ = some (.int .i64 a) ∧ w7.cell? ⟨w.heap.size, 2, none⟩ = some (.int .i64 b) ∧ w7.cell? ⟨w.heap.size, 3, none⟩ = some (.int .i64 v) ∧ w.heap.size < w7.heap.size ∧ w7.heap[w.heap.size]? = some (boxF t a b v) := by
  subst h
  have c7 := heap_alloc_new w (boxF t a b v)
  obtain ⟨h0, h1, h2, h3⟩ := row_fq c7
  exact ⟨(Below.refl _ _).alloc (Nat.le_refl _) _, h0, h1, h2, h3, by simp, c7⟩
/-- A frequency as a value. -/
abbrev fqV (t a b v : Int) : Value := .agg #[.int .i64 t, .int .i64 a, .int .i64 b, .int .i64 v]

theorem tdiv_cnt {t a b v : Int} (h : sndF (t, a, b, v) = true) : (b - a - 1).tdiv v + 1 = ((cntF (t, a, b, v) : Nat) : Int) := by
  obtain ⟨h1, h2, h3, h4, h5⟩ := snd_iff.1 h
  have q0 : 0 ≤ (b - a - 1) / v := Int.ediv_nonneg (by omega) (by omega)
  unfold cntF
  rw [Int.tdiv_eq_ediv_of_nonneg (by omega)]
  simp only
  omega
end Go.Proofs.Ytkballjadkhepaa
