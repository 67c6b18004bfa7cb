/-
  A map from strings to ints or to bools that a call makes: which strings it holds, at which numbers; what a look-up answers, what a store leaves. Condition: the keys are at most 2^62 bytes long, the entries fewer than 2^40.
-/
import Derived.Test.YtkhalnjgbdpfhaaGreatShA
import Derived.Maps.OwnSet
import Derived.WalkArith
namespace Go.Proofs.YtkhalnjgbdpfhaaGreat
open Go.RowKit Go.Maps

abbrev Dm := DataW Unit
theorem key_law : Keyed Tryz.prog 9 := string_keyed Tryz.underlying9
theorem zero_int (w : World) : (zeroValue 3).run Tryz.prog w = .ok (.int .i64 0) w := by kernel_rfl
theorem zero_bool (w : World) : (zeroValue 4).run Tryz.prog w = .ok (.bool false) w := by kernel_rfl
theorem key_of (s : ByteArray) (h : s.size ≤ 4611686018427387904) : keyOf Tryz.prog 9 (.string s) = some (.string s.data.toList) := Go.WideMaps.keyOf_string_mk Tryz.underlying9 (by unfold maxLen; omega)

/-! ### Strings to ints -/
/-- Block b is a map from these strings to their indices. -/
def MapI (w : World) (b : Nat) (ls : List (List UInt8)) : Prop := ∃ D : Dm, w.ownsMap Tryz.prog 9 (plainElem Tryz.prog 3) b ls.length D ∧ IsMap D ∧ (∀ x, has D (.string x) = decide (x ∈ ls)) ∧ ∀ (i : Nat) x z, ls[i]? = some x → D.atKey (.string x) z = .lit (.int .i64 i)
theorem MapI.made (w : World) : MapI (w.alloc (.map #[] 0)) w.heap.size [] := ⟨.map [], World.ownsMap_made _ _ _ _, isMap_empty, fun x => by simp [has_eq], fun i x z h => by simp at h⟩
theorem MapI.lt {w : World} {b : Nat} {ls : List (List UInt8)} (h : MapI w b ls) : b < w.heap.size := by
  obtain ⟨D, h1, _⟩ := h
  exact h1.lt
theorem below_but {w w' : World} (hb : Below w.heap.size w w') : w.grownBy w' none := ⟨hb.os, hb.tape, hb.output, hb.size, fun k hk _ => hb.block k hk⟩
theorem MapI.below {w w' : World} {b : Nat} {ls : List (List UInt8)} (h : MapI w b ls) (hb : Below w.heap.size w w') : MapI w' b ls := by
  obtain ⟨D, h1, h2⟩ := h
  exact ⟨D, h1.kept (below_but hb) (by simp), h2⟩
theorem MapI.kept {w w' : World} {b : Nat} {ls : List (List UInt8)} {row : Option Nat} (h : MapI w b ls) (hg : w.grownBy w' row) (hne : some b ≠ row) : MapI w' b ls := by
  obtain ⟨D, h1, h2⟩ := h
  exact ⟨D, h1.kept hg hne, h2⟩
theorem MapI.setCell {w : World} {b : Nat} {ls : List (List UInt8)} (h : MapI w b ls) {a : Addr} (ha : b ≠ a.block) (u : Value) : MapI (w.setCell a u) b ls := by
  obtain ⟨D, h1, h2⟩ := h
  exact ⟨D, h1.setCell ha u, h2⟩
/-- The index of a string among different strings; 0 if it is none of them. -/
def idxOf (ls : List (List UInt8)) (x : List UInt8) : Nat := if x ∈ ls then ls.idxOf x else 0
theorem idx_get {ls : List (List UInt8)} {x : List UInt8} (h : x ∈ ls) : ls[ls.idxOf x]? = some x := by
  have hlt : ls.idxOf x < ls.length := List.idxOf_lt_length_iff.2 h
  rw [List.getElem?_eq_getElem hlt, List.getElem_idxOf hlt]
/-! ### Strings to bools -/
/-- Block b is a map from these strings to true. -/
def MapB (w : World) (b : Nat) (ls : List (List UInt8)) : Prop := ∃ D : Dm, w.ownsMap Tryz.prog 9 (plainElem Tryz.prog 4) b ls.length D ∧ IsMap D ∧ (∀ x, has D (.string x) = decide (x ∈ ls)) ∧ ∀ x z, x ∈ ls → D.atKey (.string x) z = .lit (.bool true)
theorem MapB.made (w : World) : MapB (w.alloc (.map #[] 0)) w.heap.size [] := ⟨.map [], World.ownsMap_made _ _ _ _, isMap_empty, fun x => by simp [has_eq], fun x z h => by simp at h⟩
theorem MapB.lt {w : World} {b : Nat} {ls : List (List UInt8)} (h : MapB w b ls) : b < w.heap.size := by
  obtain ⟨D, h1, _⟩ := h
  exact h1.lt
theorem MapB.below {w w' : World} {b : Nat} {ls : List (List UInt8)} (h : MapB w b ls) (hb : Below w.heap.size w w') : MapB w' b ls := by
  obtain ⟨D, h1, h2⟩ := h
  exact ⟨D, h1.kept (below_but hb) (by simp), h2⟩
set_option maxRecDepth 100000 in
theorem plain_bool_inv {v : Value} {z : Dm × List MemPlace} (h : plainElem Tryz.prog 4 v = some z) : ∃ x, v = .bool x ∧ z = (.lit (.bool x), []) := by
  unfold plainElem at h
  rw [Tryz.underlying4] at h
  cases v <;> simp at h
  exact ⟨_, rfl, h.symm⟩
theorem MapB.look {w : World} {b : Nat} {ls : List (List UInt8)} (h : MapB w b ls) (s : ByteArray) (x : List UInt8) (hx : s.data.toList = x) (hs : s.size ≤ 4611686018427387904) :
    (Instr.lookup 119 (.map (some b)) (.string s) false).run Tryz.prog w = .ok (.bool (decide (x ∈ ls))) w := by
  subst hx
  obtain ⟨D, h1, h2, h3, h4⟩ := h
  obtain ⟨v, ps, hrun, hv⟩ := h1.lookup key_law Tryz.underlying119 (zero_bool w) (plainElem_bool Tryz.underlying4 false) (key_of s hs)
  obtain ⟨c, rfl, hc⟩ := plain_bool_inv hv
  have hc := congrArg Prod.fst hc
  rw [hrun]
  have : c = decide (s.data.toList ∈ ls) := by
    by_cases hm : s.data.toList ∈ ls
    · rw [h4 _ _ hm] at hc
      simp at hc
      simp [hm, ← hc]
    · rw [atKey_of_not_has (by rw [h3]; exact decide_eq_false hm)] at hc
      simp at hc
      simp [hm, ← hc]
  rw [this]
/-- Storing true at a string. -/
theorem put_bool (w : World) {ops : Array Oper} {rest : List Oper} {o : Oper} {a : Act} {Q : Exit → Act → World → Prop} (hgd : o.guard = none) (m x v : Operand) (ho : o.op = Op.mapUpdate 119 m x v)
    (b : Nat) (ls : List (List UInt8)) (hm : a.eval m = .map (some b)) (hown : MapB w b ls) (s : ByteArray) (y : List UInt8) (hy : s.data.toList = y) (hs : s.size ≤ 4611686018427387904) (hx : a.eval x = .string s) (hv : a.eval v = .bool true)
    (hl : ls.length < 1099511627776) (h : ∀ w', MapB w' b (ls ++ [y]) → w.grownBy w' (some b) → wpList Tryz.prog ops Q rest (a.put o.dst undef) w') : wpList Tryz.prog ops Q (o :: rest) a w := by
  subst hy
  obtain ⟨D, h1, h2, h3, h4⟩ := hown
  refine wpList_mapUpdate_own w hgd m x v 119 ho 9 4 key_law Tryz.underlying119 _ b ls.length D hm h1 (by unfold maxLen; omega) _ _ _ hx hv (key_of s hs) _ [] (plainElem_bool Tryz.underlying4 true) ?_
  intro w' g1 g2
  refine h w' ⟨_, by rw [List.length_append]; exact g1, h2.put _ _, fun x => ?_, fun x z hi => ?_⟩ g2
  · by_cases hx : x = s.data.toList
    · subst hx
      rw [has_put_same h2 (by simp [WideAt.IsKeyLit])]
      simp
    · rw [has_put_other (by simpa using hx), h3]
      simp [hx]
  · by_cases hx : x = s.data.toList
    · subst hx
      rw [atKey_put_same h2 (by simp [WideAt.IsKeyLit])]
    · rw [atKey_put_other (by simpa using hx)]
      exact h4 x z (by simpa [hx] using hi)
end Go.Proofs.YtkhalnjgbdpfhaaGreat
