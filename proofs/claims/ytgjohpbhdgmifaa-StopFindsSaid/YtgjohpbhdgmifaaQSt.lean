/-
  A slice of stops in memory: the cells of a stop, a stop put into a box of its own; an index appended to a list. Condition: none beyond each theorem's own hypotheses.
-/
import Derived.Test.YtgjohpbhdgmifaaOpenG
import Derived.Test.YtgjohpbhdgmifaaRowS
import Derived.Test.YtgjohpbhdgmifaaFrm
import Derived.Test.YtgjohpbhdgmifaaMap
import Derived.Test.YtgjohpbhdgmifaaIVal
import Derived.Test.YtgjohpbhdgmifaaBOps
import Derived.Test.YtgjohpbhdgmifaaStp
import Derived.Test.YtgjohpbhdgmifaaSameI
namespace Go.Proofs.Ytgjohpbhdgmifaa
open Go.RowKit

/-- A stop as cells. -/
def se (x : St) : List Value := [.string (str x.1), .int .i64 x.2.1, .bool x.2.2.1, .int .i64 x.2.2.2]
theorem se_len (x : St) : (se x).length = 4 := rfl
abbrev LstS := @LstG St se
/-- The four cells of a stop. -/
theorem four_at {w : World} {A : Option Addr} {n c : Nat} {l : List St} (h : LstS w (.slice A n c) l) {i : Nat} {id : List UInt8} {z : Int} {f : Bool} {ch : Int} (hs : l[i]? = some (id, z, f, ch)) {s : ByteArray} (hst : str id = s) :
    ∃ b o, A = some ⟨b, o, none⟩ ∧ b < w.heap.size ∧ w.cell? ⟨b, o + i * 4, none⟩ = some (.string s) ∧ w.cell? ⟨b, o + i * 4 + 1, none⟩ = some (.int .i64 z) ∧ w.cell? ⟨b, o + i * 4 + 2, none⟩ = some (.bool f) ∧ w.cell? ⟨b, o + i * 4 + 3, none⟩ = some (.int .i64 ch) := by
  subst hst
  obtain ⟨A', c', hv, _, _, hx⟩ := h
  cases hv
  have hi := (List.getElem?_eq_some_iff.1 hs).1
  obtain ⟨b, o, rfl, hb, hcell⟩ := hx (by omega)
  refine ⟨b, o, rfl, hb, hcell (i * 4) _ (by rw [← Nat.add_zero (i * 4), fl_at se_len hs 0 (by omega)]; rfl), (hcell (i * 4 + 1) _ (by rw [fl_at se_len hs 1 (by omega)]; rfl) : _), (hcell (i * 4 + 2) _ (by rw [fl_at se_len hs 2 (by omega)]; rfl) : _), (hcell (i * 4 + 3) _ (by rw [fl_at se_len hs 3 (by omega)]; rfl) : _)⟩
/-- A stop in a box. -/
abbrev boxS (s : ByteArray) (z : Int) (f : Bool) (ch : Int) : Obj := .cells #[.string s, .int .i64 z, .bool f, .int .i64 ch] 43 (0, 0)
theorem box_st {w w7 : World} {s : ByteArray} {z : Int} {f : Bool} {ch : Int} (h : w.alloc (boxS s z f ch) = w7) :
    Below w.heap.size w w7 ∧ w7.cell? ⟨w.heap.size, 0, none⟩ = some (.string s) ∧ w7.cell? ⟨w.heap.size, 1, none⟩ = some (.int .i64 z) ∧ w7.cell? ⟨w.heap.size, 2, none⟩ = some (.bool f) ∧ w7.cell? ⟨w.heap.size, 3, none⟩ = some (.int .i64 ch) ∧ w.heap.size < w7.heap.size := by
  subst h
  have c7 := heap_alloc_new w (boxS s z f ch)
  exact ⟨(Below.refl _ _).alloc (Nat.le_refl _) _, by rw [cell_of_row _ _ 0 _ _ _ c7]; rfl, by rw [cell_of_row _ _ 1 _ _ _ c7]; rfl, by rw [cell_of_row _ _ 2 _ _ _ c7]; rfl, by rw [cell_of_row _ _ 3 _ _ _ c7]; rfl, by simp⟩
theorem ret_uw {a b : Nat} (h : a = b) : Ending.returned (.int .u64 (a : Int)) = .returned (.int .u64 (b : Int)) := by rw [h]
theorem ret_fnd {a b : Int} {c d : Bool} (h : a = b) (k : c = d) : Ending.returned (.tuple #[.int .i64 a, .bool c]) = .returned (.tuple #[.int .i64 b, .bool d]) := by rw [h, k]
theorem str_ne {id : List UInt8} {x : List UInt8} {s t : ByteArray} (hs : str x = s) (ht : str id = t) (h : x ≠ id) : s ≠ t := by
  intro e
  apply h
  have e2 : str x = str id := by rw [hs, ht, e]
  have := congrArg (fun b : ByteArray => b.data.toList) e2
  simpa [str] using this
end Go.Proofs.Ytgjohpbhdgmifaa
