/-
  Slices of trips in memory: the cells of a trip, a trip put into a box of its own, what the world says of each trip's calls. Condition: none beyond each theorem's own hypotheses.
-/
import Derived.Test.YtkballjadkhepaaWSt
namespace Go.Proofs.Ytkballjadkhepaa
open Go.RowKit

/-- A trip: its identifier, route, calendar, whether it is step-free, its slice of calls and the calls. -/
abbrev Tp := List UInt8 × Int × Int × Bool × Value × List Cl
/-- A trip as cells. -/
def te (x : Tp) : List Value := [.string (str x.1), .int .i64 x.2.1, .int .i64 x.2.2.1, .bool x.2.2.2.1, x.2.2.2.2.1]
theorem te_len (x : Tp) : (te x).length = 5 := rfl
abbrev LstT := @LstG Tp te
/-- What the world says of a trip's calls. -/
def OkT (W : World) (x : Tp) : Prop := LstC W x.2.2.2.2.1 x.2.2.2.2.2 ∧ x.2.2.2.2.2.length ≤ 9223372036854775807 ∧ OkS x.2.2.2.2.2
theorem OkT.below {w w' : World} {x : Tp} (h : OkT w x) (b : Below w.heap.size w w') : OkT w' x := ⟨h.1.below b, h.2⟩
/-- A slice of trips, each of which can be what it is in the world. -/
def LstTp (w : World) (v : Value) (l : List Tp) : Prop := LstT w v l ∧ ∀ x ∈ l, OkT w x
theorem LstTp.below {w w' : World} {v : Value} {l : List Tp} (h : LstTp w v l) (b : Below w.heap.size w w') : LstTp w' v l := ⟨h.1.below b, fun x hx => (h.2 x hx).below b⟩
/-- The five cells of a trip and its calls. -/
theorem trip_at {w : World} {A : Option Addr} {n c : Nat} {l : List Tp} (h : LstTp w (.slice A n c) l) {i : Nat} {id : List UInt8} {r k : Int} {f : Bool} {v : Value} {cl : List Cl} (hs : l[i]? = some (id, r, k, f, v, cl)) {s : ByteArray} (hst : str id = s) :
    ∃ b o B m, A = some ⟨b, o, none⟩ ∧ v = .slice B cl.length m ∧ b < w.heap.size ∧ w.cell? ⟨b, o + i * 5, none⟩ = some (.string s) ∧ w.cell? ⟨b, o + i * 5 + 1, none⟩ = some (.int .i64 r) ∧ w.cell? ⟨b, o + i * 5 + 2, none⟩ = some (.int .i64 k) ∧ w.cell? ⟨b, o + i * 5 + 3, none⟩ = some (.bool f) ∧ w.cell? ⟨b, o + i * 5 + 4, none⟩ = some (.slice B cl.length m) ∧
      LstC w (.slice B cl.length m) cl ∧ cl.length ≤ 9223372036854775807 ∧ OkS cl := by
  subst hst
  obtain ⟨ht, hok⟩ := h
  obtain ⟨h1, h2, h3⟩ := hok _ (List.mem_iff_getElem?.2 ⟨i, hs⟩)
  simp only at h1 h2 h3
  obtain ⟨B, m, rfl, -, -, -⟩ := _root_.id h1
  obtain ⟨A', c', hv, _, _, hx⟩ := ht
  cases hv
  have hi := (List.getElem?_eq_some_iff.1 hs).1
  obtain ⟨b, o, rfl, hb, hcell⟩ := hx (by omega)
  exact ⟨b, o, B, m, rfl, rfl, hb, hcell (i * 5) _ (by rw [← Nat.add_zero (i * 5), fl_at te_len hs 0 (by omega)]; rfl), (hcell (i * 5 + 1) _ (by rw [fl_at te_len hs 1 (by omega)]; rfl) : _), (hcell (i * 5 + 2) _ (by rw [fl_at te_len hs 2 (by omega)]; rfl) : _), (hcell (i * 5 + 3) _ (by rw [fl_at te_len hs 3 (by omega)]; rfl) : _), (hcell (i * 5 + 4) _ (by rw [fl_at te_len hs 4 (by omega)]; rfl) : _), h1, h2, h3⟩
/-- A trip in a box. -/
abbrev boxT (s : ByteArray) (r k : Int) (f : Bool) (v : Value) : Obj := .cells #[.string s, .int .i64 r, .int .i64 k, .bool f, v] 49 (0, 0)
theorem box_tp {w w7 : World} {s : ByteArray} {r k : Int} {f : Bool} {v : Value} (h : w.alloc (boxT s r k f v) = w7) :
    Below w.heap.size w w7 ∧ w7.cell? ⟨w.heap.size, 0, none⟩ = some (.string s) ∧ w7.cell? ⟨w.heap.size, 1, none⟩ = some (.int .i64 r) ∧ w7.cell? ⟨w.heap.size, 2, none⟩ = some (.int .i64 k) ∧ w7.cell? ⟨w.heap.size, 3, none⟩ = some (.bool f) ∧ w7.cell? ⟨w.heap.size, 4, none⟩ = some v ∧ w.heap.size < w7.heap.size := by
  subst h
  have c7 := heap_alloc_new w (boxT s r k f v)
  exact ⟨(Below.refl _ _).alloc (Nat.le_refl _) _, by rw [cell_of_row _ _ 0 _ _ _ c7]; rfl, by rw [cell_of_row _ _ 1 _ _ _ c7]; rfl, by rw [cell_of_row _ _ 2 _ _ _ c7]; rfl, by rw [cell_of_row _ _ 3 _ _ _ c7]; rfl, by rw [cell_of_row _ _ 4 _ _ _ c7]; rfl, by simp⟩
theorem row_tp {w : World} {b : Nat} {s : ByteArray} {r k : Int} {f : Bool} {v : Value} (h : w.heap[b]? = some (boxT s r k f v)) :
    w.cell? ⟨b, 0, none⟩ = some (.string s) ∧ w.cell? ⟨b, 1, none⟩ = some (.int .i64 r) ∧ w.cell? ⟨b, 2, none⟩ = some (.int .i64 k) ∧ w.cell? ⟨b, 3, none⟩ = some (.bool f) ∧ w.cell? ⟨b, 4, none⟩ = some v :=
  ⟨by rw [cell_of_row _ _ 0 _ _ _ h]; rfl, by rw [cell_of_row _ _ 1 _ _ _ h]; rfl, by rw [cell_of_row _ _ 2 _ _ _ h]; rfl, by rw [cell_of_row _ _ 3 _ _ _ h]; rfl, by rw [cell_of_row _ _ 4 _ _ _ h]; rfl⟩
theorem row_cc {w : World} {b : Nat} {s a d : Int} {o u : Bool} (h : w.heap[b]? = some (boxC s a d o u)) :
    w.cell? ⟨b, 0, none⟩ = some (.int .i64 s) ∧ w.cell? ⟨b, 1, none⟩ = some (.int .i64 a) ∧ w.cell? ⟨b, 2, none⟩ = some (.int .i64 d) ∧ w.cell? ⟨b, 3, none⟩ = some (.bool o) ∧ w.cell? ⟨b, 4, none⟩ = some (.bool u) :=
  ⟨by rw [cell_of_row _ _ 0 _ _ _ h]; rfl, by rw [cell_of_row _ _ 1 _ _ _ h]; rfl, by rw [cell_of_row _ _ 2 _ _ _ h]; rfl, by rw [cell_of_row _ _ 3 _ _ _ h]; rfl, by rw [cell_of_row _ _ 4 _ _ _ h]; rfl⟩
/-- A cell stored that is so already. -/
theorem set_same {w : World} {b i : Nat} {v : Value} {cs : Array Value} {T : TypeId} {fr : Nat × Nat} (h : w.heap[b]? = some (.cells cs T fr)) (hc : cs.setIfInBounds i v = cs) : w.setCell ⟨b, i, none⟩ v = w := by
  unfold World.setCell
  cases w with
  | mk hp tape drawn os out =>
    simp only at h ⊢
    congr 1
    refine Array.ext_getElem? fun j => ?_
    rw [Array.getElem?_modify]
    split
    · next e =>
      subst e
      rw [h]
      simp [hc]
    · rfl
theorem box_last {w w7 : World} {s a d : Int} {o : Bool} (h : w.alloc (boxC s a d o false) = w7) : w7.frozen? ⟨w.heap.size, 4, none⟩ = false ∧ w7.setCell ⟨w.heap.size, 4, none⟩ (.bool false) = w7 := by
  subst h
  exact ⟨frozen_of_row _ _ 4 _ _ (heap_alloc_new _ _), set_same (heap_alloc_new _ _) rfl⟩
/-- Two boxes, one behind the other. -/
theorem box_both (w : World) (x y : Obj) : ∃ W : World, (w.alloc x).alloc y = W ∧ W.heap.size = w.heap.size + 2 ∧ W.heap[w.heap.size]? = some x ∧ W.heap[w.heap.size + 1]? = some y ∧ Below w.heap.size w W := by
  refine ⟨_, rfl, by simp, (Go.heap_alloc_old _ _ (show w.heap.size < _ by simp)).trans (heap_alloc_new w _), ?_, ((Below.refl _ _).alloc (Nat.le_refl _) _).alloc (by simp) _⟩
  have hh := heap_alloc_new (w.alloc x) y
  rw [show (w.alloc x).heap.size = w.heap.size + 1 by simp] at hh
  exact hh
end Go.Proofs.Ytkballjadkhepaa
