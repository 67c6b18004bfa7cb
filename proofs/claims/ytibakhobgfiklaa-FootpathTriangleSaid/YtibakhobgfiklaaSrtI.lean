/-
  A sort of ints: the world behind it, what it leaves as it was, what the row reads as. Condition: none beyond each theorem's own hypotheses.
-/
import Derived.Test.YtibakhobgfiklaaMb
import Derived.Test.YtibakhobgfiklaaIsr
import Derived.Sort.Grow
import Derived.Shelf.Abstract
namespace Go.Proofs.Ytibakhobgfiklaa
open Go.RowKit Go.Sort

/-! ### A sort of ints -/
theorem heap_sortI {w : World} {g n : Nat} {os : Array Obj} {cur : Array Value} {e : TypeId} {fr : Nat × Nat} (d : Array Int) (hb : w.heap[g]? = some (.cells cur e fr)) :
    (grow (putRow (Value.int .i64) (Sort.ahead w n) g 0 d) os).heap[g]? = some (.cells (putCells (Value.int .i64) 0 d cur) e fr) := by
  have hg : g < w.heap.size := (Array.getElem?_eq_some_iff.1 hb).1
  rw [heap_grow_old _ _ (by simpa [putRow, mapBlock, Sort.ahead] using hg)]
  simp [putRow, mapBlock, Sort.ahead, Array.getElem?_modify, hb, onCells]
theorem below_sortI {w : World} {g n base : Nat} {os : Array Obj} (d : Array Int) (hb : base ≤ g) (hl : base ≤ w.heap.size) : RowKit.Below base w (grow (putRow (Value.int .i64) (Sort.ahead w n) g 0 d) os) := by
  refine ⟨rfl, rfl, rfl, by simp [putRow, mapBlock, Sort.ahead], fun j hj => ?_⟩
  rw [heap_grow_old _ _ (by simp [putRow, mapBlock, Sort.ahead]; omega)]
  have : g ≠ j := by omega
  simp [putRow, mapBlock, Sort.ahead, Array.getElem?_modify, this]
theorem holdsI_own {w : World} {g : Nat} {T : TypeId} {cur : Array Value} {l : List Int} (hb : w.heap[g]? = some (.cells cur T (0, 0))) (ht : cur.toList.take l.length = ints l) : Holds (Value.int .i64) w g 0 l.toArray := by
  intro j hj
  have hj' : j < l.length := by simpa using hj
  refine ⟨?_, by simp [World.frozen?, hb]⟩
  have h1 : (cur.toList.take l.length)[j]? = (ints l)[j]? := by rw [ht]
  rw [List.getElem?_take_of_lt hj'] at h1
  rw [cell_of_row w g (0 + j) cur _ _ hb, Nat.zero_add, ← Array.getElem?_toList, h1]
  simp [hj']
theorem lst_sortedI {w : World} {g cap m : Nat} {T : TypeId} {os : Array Obj} {cur : Array Value} (l : List Int) (hb : w.heap[g]? = some (.cells cur T (0, 0))) (hl : l.length ≤ cur.size) (hc : l.length ≤ cap) :
    LstI (grow (putRow (Value.int .i64) (Sort.ahead w m) g 0 l.toArray) os) (.slice (some ⟨g, 0, none⟩) l.length cap) l := by
  have hh := heap_sortI (n := m) (os := os) l.toArray hb
  refine ⟨some ⟨g, 0, none⟩, cap, rfl, hc, fun h => absurd h (by simp), fun _ => ⟨g, 0, rfl, (Array.getElem?_eq_some_iff.1 hh).1, fun j x hj => ?_⟩⟩
  rw [Nat.zero_add, cell_of_row _ g j _ _ _ hh, ← hj]
  have hjl : j < l.length := by
    have := (List.getElem?_eq_some_iff.1 hj).1
    rw [List.length_map] at this
    exact this
  simp [putCells, hjl, show j < cur.size by omega]
theorem lsti_at (w : World) (k : Nat) (hk : w.heap.size = k) (cs : Array Value) (ls : List Int) (h : cs.toList = ints ls) (n : Nat) (hn : ls.length = n) : LstI (w.alloc (.cells cs 3 (0, 0))) (.slice (some ⟨k, 0, none⟩) n n) ls := by
  subst hk
  exact lsti_lit w cs ls h n hn
end Go.Proofs.Ytibakhobgfiklaa
