/-
  A sort of structs of one-cell parts: the cells, the world behind it. Condition: none beyond each theorem's own hypotheses.
-/
import Derived.Test.YtokcpgpchiikgaaRow
import Derived.Test.YtokcpgpchiikgaaShelf
namespace Go.Proofs.Ytokcpgpchiikgaa
open Go.RowKit Go.Sort

/-! ### A sort of structs: the cells, the world behind it -/
section
variable {α : Type} [Inhabited α] {enc : α → List Value} {k : Nat}
theorem flatK_fl (hk : ∀ a, (enc a).length = k) (l : List α) : (flatK enc k l.toArray).toList = fl enc l := by
  apply List.ext_getElem?
  intro t
  by_cases ht : t < l.length * k
  · have k0 : 0 < k := by
      rcases Nat.eq_zero_or_pos k with h | h
      · subst h; simp at ht
      · exact h
    have hi : t / k < l.length := Nat.div_lt_of_lt_mul (by rw [Nat.mul_comm]; exact ht)
    obtain ⟨a, ha⟩ := (⟨l[t / k], List.getElem?_eq_getElem hi⟩ : ∃ a, l[t / k]? = some a)
    have h1 := fl_at hk ha (t % k) (Nat.mod_lt _ k0)
    rw [show t / k * k + t % k = t by rw [Nat.mul_comm]; exact Nat.div_add_mod t k] at h1
    rw [h1]
    have h2 := get_flatK enc k l.toArray t (by simpa using ht)
    have h3 : t < (flatK enc k l.toArray).size := by simpa using ht
    rw [getElem!_pos _ t h3] at h2
    rw [Array.getElem?_toList, Array.getElem?_eq_getElem h3, h2]
    have h4 : l.toArray[t / k]! = a := by
      rw [getElem!_pos _ _ (by simpa using hi)]
      have := List.getElem?_eq_getElem hi
      rw [ha] at this
      simp at this
      simp [this]
    rw [h4]
    have hm : t % k < (enc a).length := by rw [hk]; exact Nat.mod_lt _ k0
    rw [getElem!_pos (enc a) (t % k) hm, List.getElem?_eq_getElem hm]
  · rw [List.getElem?_eq_none (by simp; omega), List.getElem?_eq_none (by rw [fl_len hk]; omega)]
theorem heap_sortK {w : World} {g n : Nat} {os : Array Obj} {cur : Array Value} {e : TypeId} {fr : Nat × Nat} (d : Array α) (hb : w.heap[g]? = some (.cells cur e fr)) :
    (sortWorldK enc k w g 0 n d os).heap[g]? = some (.cells (putCells id 0 (flatK enc k d) cur) e fr) := by
  have hg : g < w.heap.size := (Array.getElem?_eq_some_iff.1 hb).1
  unfold sortWorldK
  rw [heap_grow_old _ _ (by simpa [putRowK, putRow, mapBlock, Sort.ahead] using hg)]
  simp [putRowK, putRow, mapBlock, Sort.ahead, Array.getElem?_modify, hb, onCells]
theorem below_sortK {w : World} {g n base : Nat} {os : Array Obj} (d : Array α) (hb : base ≤ g) (hl : base ≤ w.heap.size) : Below base w (sortWorldK enc k w g 0 n d os) := by
  refine ⟨rfl, rfl, rfl, by simp [sortWorldK, putRowK, putRow, mapBlock, Sort.ahead], fun j hj => ?_⟩
  unfold sortWorldK
  rw [heap_grow_old _ _ (by simp [putRowK, putRow, mapBlock, Sort.ahead]; omega)]
  have : g ≠ j := by omega
  simp [putRowK, putRow, mapBlock, Sort.ahead, Array.getElem?_modify, this]
theorem holdsK_own (hk : ∀ a, (enc a).length = k) {w : World} {g : Nat} {T : TypeId} {cur : Array Value} {l : List α} (hb : w.heap[g]? = some (.cells cur T (0, 0))) (ht : cur.toList.take (l.length * k) = fl enc l) : HoldsK enc k w g 0 l.toArray := by
  intro j hj
  have hj' : j < l.length * k := by simpa using hj
  refine ⟨?_, by simp [World.frozen?, hb]⟩
  have h1 : (cur.toList.take (l.length * k))[j]? = (fl enc l)[j]? := by rw [ht]
  rw [List.getElem?_take_of_lt hj', ← flatK_fl hk, Array.getElem?_toList, Array.getElem?_toList, Array.getElem?_eq_getElem hj] at h1
  rw [cell_of_row w g (0 + j) cur _ _ hb, Nat.zero_add, h1, getElem!_pos _ j hj]
  rfl
theorem lst_sortedK (hk : ∀ a, (enc a).length = k) {w : World} {g cap m : Nat} {T : TypeId} {os : Array Obj} {cur : Array Value} (l : List α) (hb : w.heap[g]? = some (.cells cur T (0, 0))) (hl : l.length * k ≤ cur.size) (hc : l.length ≤ cap) :
    LstG enc (sortWorldK enc k w g 0 m l.toArray os) (.slice (some ⟨g, 0, none⟩) l.length cap) l := by
  have hh := heap_sortK (enc := enc) (k := k) (n := m) (os := os) l.toArray hb
  refine ⟨some ⟨g, 0, none⟩, cap, rfl, hc, fun h => absurd h (by simp), fun _ => ⟨g, 0, rfl, (Array.getElem?_eq_some_iff.1 hh).1, fun j x hj => ?_⟩⟩
  rw [Nat.zero_add, cell_of_row _ g j _ _ _ hh, ← hj]
  have hjl : j < l.length * k := by
    have := (List.getElem?_eq_some_iff.1 hj).1
    rw [fl_len hk] at this
    exact this
  have h3 : j < (flatK enc k l.toArray).size := by simpa using hjl
  rw [← flatK_fl hk, Array.getElem?_toList, Array.getElem?_eq_getElem h3]
  have hjc : j < cur.size := by omega
  simp [putCells, hjc, hjl]
theorem perm_in {d d' : Array α} (h : PermIn 0 d.size d d') : d'.toList.Perm d.toList := by
  obtain ⟨h1, _, h3⟩ := h
  rw [← h1, Array.extract_size] at h3
  rw [h1, Array.extract_size] at h3
  exact h3
end
end Go.Proofs.Ytokcpgpchiikgaa
