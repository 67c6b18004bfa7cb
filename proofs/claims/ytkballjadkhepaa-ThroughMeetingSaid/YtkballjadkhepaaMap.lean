/-
  A map from strings to ints or to bools that a call makes: which strings it holds, at which numbers; what a look-up answers, what a store leaves. Condition: the keys are at most 2^62 bytes long, the entries fewer than 2^40.
-/
import Derived.Test.YtkballjadkhepaaOwn
import Derived.Maps.OwnSet
import Derived.WalkArith
namespace Go.Proofs.Ytkballjadkhepaa
open Go.RowKit Go.Maps

abbrev Dm := DataW Unit
theorem key_law : Keyed Try.prog 9 := string_keyed Try.underlying9
theorem zero_int (w : World) : (zeroValue 3).run Try.prog w = .ok (.int .i64 0) w := by kernel_rfl
theorem zero_bool (w : World) : (zeroValue 4).run Try.prog w = .ok (.bool false) w := by kernel_rfl
theorem key_of (s : ByteArray) (h : s.size ≤ 4611686018427387904) : keyOf Try.prog 9 (.string s) = some (.string s.data.toList) := Go.WideMaps.keyOf_string_mk Try.underlying9 (by unfold maxLen; omega)

/-! ### Strings to ints -/
/-- Block b is a map from these strings to their indices. -/
def MapI (w : World) (b : Nat) (ls : List (List UInt8)) : Prop := ∃ D : Dm, w.ownsMap Try.prog 9 (plainElem Try.prog 3) b ls.length D ∧ IsMap D ∧ (∀ x, has D (.string x) = decide (x ∈ ls)) ∧ ∀ (i : Nat) x z, ls[i]? = some x → D.atKey (.string x) z = .lit (.int .i64 i)
theorem MapI.made (w : World) : MapI (w.alloc (.map #[] 0)) w.heap.size [] := ⟨.map [], World.ownsMap_made _ _ _ _, isMap_empty, fun x => by simp [has_eq], fun i x z h => by simp at h⟩
theorem MapI.lt {w : World} {b : Nat} {ls : List (List UInt8)} (h : MapI w b ls) : b < w.heap.size := by
  obtain ⟨D, h1, _⟩ := h
  exact h1.lt
theorem below_but {w w' : World} (hb : Below w.heap.size w w') : w.grownBy w' none := ⟨hb.os, hb.tape, hb.output, hb.size, fun k hk _ => hb.block k hk⟩
theorem MapI.below {w w' : World} {b : Nat} {ls : List (List UInt8)} (h : MapI w b ls) (hb : Below w.heap.size w w') : MapI w' b ls := by
  obtain ⟨D, h1, h2⟩ := h
  exact ⟨D, h1.kept (below_but hb) (by simp), h2⟩
theorem MapI.kept {w w' : World} {b : Nat} {ls : List (List UInt8)} {row : Option Nat} (h : MapI w b ls) (hg : w.grownBy w' row) (hne : some b ≠ row) : MapI w' b ls := by
  obtain ⟨D, h1, h2⟩ := h
  exact ⟨D, h1.kept hg hne, h2⟩
theorem MapI.setCell {w : World} {b : Nat} {ls : List (List UInt8)} (h : MapI w b ls) {a : Addr} (ha : b ≠ a.block) (u : Value) : MapI (w.setCell a u) b ls := by
  obtain ⟨D, h1, h2⟩ := h
  exact ⟨D, h1.setCell ha u, h2⟩
/-- The index of a string among different strings; 0 if it is none of them. -/
def idxOf (ls : List (List UInt8)) (x : List UInt8) : Nat := if x ∈ ls then ls.idxOf x else 0
theorem idx_get {ls : List (List UInt8)} {x : List UInt8} (h : x ∈ ls) : ls[ls.idxOf x]? = some x := by
  have hlt : ls.idxOf x < ls.length := List.idxOf_lt_length_iff.2 h
  rw [List.getElem?_eq_getElem hlt, List.getElem_idxOf hlt]
/-! ### Strings to bools -/
/-- Block b is a map from these strings to true. -/
def MapB (w : World) (b : Nat) (ls : List (List UInt8)) : Prop := ∃ D : Dm, w.ownsMap Try.prog 9 (plainElem Try.prog 4) b ls.length D ∧ IsMap D ∧ (∀ x, has D (.string x) = decide (x ∈ ls)) ∧ ∀ x z, x ∈ ls → D.atKey (.string x) z = .lit (.bool true)
theorem MapB.made (w : World) : MapB (w.alloc (.map #[] 0)) w.heap.size [] := ⟨.map [], World.ownsMap_made _ _ _ _, isMap_empty, fun x => by simp [has_eq], fun x z h => by simp at h⟩
theorem MapB.lt {w : World} {b : Nat} {ls : List (List UInt8)} (h : MapB w b ls) : b < w.heap.size := by
  obtain ⟨D, h1, _⟩ := h
  exact h1.lt
theorem MapB.below {w w' : World} {b : Nat} {ls : List (List UInt8)} (h : MapB w b ls) (hb : Below w.heap.size w w') : MapB w' b ls := by
  obtain ⟨D, h1, h2⟩ := h
  exact ⟨D, h1.kept (below_but hb) (by simp), h2⟩
theorem plain_bool_inv {v : Value} {z : Dm × List MemPlace} (h : plainElem Try.prog 4 v = some z) : ∃ x, v = .bool x ∧ z = (.lit (.bool x), []) := by
  unfold plainElem at h
  rw [Try.underlying4] at h
  cases v <;> simp at h
  exact ⟨_, rfl, h.symm⟩
end Go.Proofs.Ytkballjadkhepaa
