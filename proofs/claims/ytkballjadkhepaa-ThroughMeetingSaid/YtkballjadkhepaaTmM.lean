/-
  A map from ints to bools and one from guaranteed changes to bools that a call makes: which keys it holds; what a look-up answers, what a store leaves. Condition: the entries are fewer than 2^40, the numbers are of 64 bits.
-/
import Derived.Test.YtkballjadkhepaaTmS
import Derived.Test.YtkballjadkhepaaMap
import Derived.Maps.OwnSet
import Derived.WalkArith
import Derived.DeepKeys4
namespace Go.Proofs.Ytkballjadkhepaa
open Go.RowKit Go.Maps Go.WideMaps

/-- A number of 64 bits. -/
def Ix64 (x : Int) : Prop := -9223372036854775808 ≤ x ∧ x ≤ 9223372036854775807
theorem int_law : Keyed Try.prog 3 := int_keyed Try.underlying3
theorem key_n (a : Int) (h : Ix64 a) : keyOf Try.prog 3 (.int .i64 a) = some (.int .i64 a) := keyOf_int_mk Try.underlying3 (WalkArith.wf_i64 h)
theorem pbool_inv {v : Value} {z : Dm × List MemPlace} (h : plainElem Try.prog 4 v = some z) : ∃ x, v = .bool x ∧ z = (.lit (.bool x), []) := by
  unfold plainElem at h
  rw [Try.underlying4] at h
  cases v <;> simp at h
  exact ⟨_, rfl, h.symm⟩
theorem below_no {w w' : World} (hb : Below w.heap.size w w') : w.grownBy w' none := ⟨hb.os, hb.tape, hb.output, hb.size, fun k hk _ => hb.block k hk⟩

/-! ### Ints to bools -/
/-- Block b is a map from these ints to true. -/
def MapN (w : World) (b : Nat) (ls : List Int) : Prop := ∃ D : Dm, w.ownsMap Try.prog 3 (plainElem Try.prog 4) b ls.length D ∧ IsMap D ∧ (∀ x, has D (.int .i64 x) = decide (x ∈ ls)) ∧ ∀ x z, x ∈ ls → D.atKey (.int .i64 x) z = .lit (.bool true)
theorem MapN.made (w : World) : MapN (w.alloc (.map #[] 0)) w.heap.size [] := ⟨.map [], World.ownsMap_made _ _ _ _, isMap_empty, fun x => by simp [has_eq], fun x z h => by simp at h⟩
theorem MapN.lt {w : World} {b : Nat} {ls : List Int} (h : MapN w b ls) : b < w.heap.size := by
  obtain ⟨D, h1, _⟩ := h
  exact h1.lt
theorem MapN.kept {w w' : World} {b : Nat} {ls : List Int} {row : Option Nat} (h : MapN w b ls) (hg : w.grownBy w' row) (hne : some b ≠ row) : MapN w' b ls := by
  obtain ⟨D, h1, h2⟩ := h
  exact ⟨D, h1.kept hg hne, h2⟩
theorem MapN.below {w w' : World} {b : Nat} {ls : List Int} (h : MapN w b ls) (hb : Below w.heap.size w w') : MapN w' b ls := h.kept (below_no hb) (by simp)
theorem MapN.look {w : World} {b : Nat} {ls : List Int} (h : MapN w b ls) (x : Int) (hx : Ix64 x) : (Instr.lookup 57 (.map (some b)) (.int .i64 x) false).run Try.prog w = .ok (.bool (decide (x ∈ ls))) w := by
  obtain ⟨D, h1, h2, h3, h4⟩ := h
  obtain ⟨v, ps, hrun, hv⟩ := h1.lookup int_law Try.underlying57 (zero_bool w) (plainElem_bool Try.underlying4 false) (key_n x hx)
  obtain ⟨c, rfl, hc⟩ := pbool_inv hv
  have hc := congrArg Prod.fst hc
  rw [hrun]
  have : c = decide (x ∈ ls) := by
    by_cases hm : x ∈ ls
    · rw [h4 _ _ hm] at hc
      simp at hc
      simp [hm, ← hc]
    · rw [atKey_of_not_has (by rw [h3]; exact decide_eq_false hm)] at hc
      simp at hc
      simp [hm, ← hc]
  rw [this]
/-- A store. -/
theorem MapN.update {w : World} {b : Nat} {ls : List Int} (h : MapN w b ls) (x : Int) (hx : Ix64 x) (hl : ls.length < 1099511627776) :
    ∃ w', (Instr.mapUpdate 57 (.map (some b)) (.int .i64 x) (.bool true)).run Try.prog w = .ok () w' ∧ MapN w' b (ls ++ [x]) ∧ w.grownBy w' (some b) := by
  obtain ⟨D, h1, h2, h3, h4⟩ := h
  obtain ⟨w', hrun, g1, g2⟩ := h1.update int_law Try.underlying57 (by unfold maxLen; omega) (key_n x hx) (plainElem_bool Try.underlying4 true)
  refine ⟨w', hrun, ⟨_, by rw [List.length_append]; exact g1, h2.put _ _, fun y => ?_, fun y z hi => ?_⟩, g2⟩
  · by_cases hy : y = x
    · subst hy
      rw [has_put_same h2 (by simp [WideAt.IsKeyLit])]
      simp
    · rw [has_put_other (by simpa using hy), h3]
      simp [hy]
  · by_cases hy : y = x
    · subst hy
      rw [atKey_put_same h2 (by simp [WideAt.IsKeyLit])]
    · rw [atKey_put_other (by simpa using hy)]
      exact h4 y z (by simpa [hy] using hi)

/-! ### Guaranteed changes to bools -/
theorem gu_laid : laidOutB Try.prog = true := by kernel_rfl
theorem gu_row : (62 : TypeId) < Try.prog.types.size := of_decide_eq_true (by kernel_rfl)
theorem gu_wide : (match Try.prog.underlying 62 with | some (.array _ _) | some (.struct _) => true | _ => false) = true := by kernel_rfl
theorem gu_cells : Try.prog.cellsOf 62 = 3 := by kernel_rfl
theorem int_cells : Try.prog.cellsOf 3 = 1 := by kernel_rfl
theorem gu_key : Try.prog.keyType 62 = true := by kernel_rfl
theorem gu_law : Keyed Try.prog 62 := Keyed.of_law (deep_law_laid gu_laid (m := 3) (by omega) gu_row (by kernel_rfl) gu_wide)
theorem gu_types : ∃ m, Try.prog.types.size = m + 1 := by
  cases h : Try.prog.types.size with
  | zero => exact absurd (h ▸ gu_row : (_ : Nat) < 0) (Nat.not_lt_zero _)
  | succ m => exact ⟨m, rfl⟩
/-- All three numbers are of 64 bits. -/
def Gu64 (p : Gt) : Prop := Ix64 p.1 ∧ Ix64 p.2.1 ∧ Ix64 p.2.2
abbrev guV (p : Gt) : Value := .agg #[.int .i64 p.1, .int .i64 p.2.1, .int .i64 p.2.2]
/-- A guaranteed change as a key. -/
def kg (p : Gt) : List UInt8 := keyBytes [.int .i64 p.1, .int .i64 p.2.1, .int .i64 p.2.2]
theorem key_gu (p : Gt) (h : Gu64 p) : keyOf Try.prog 62 (guV p) = some (.string (kg p)) := by
  have w1 := WalkArith.wf_i64 h.1
  have w2 := WalkArith.wf_i64 h.2.1
  have w3 := WalkArith.wf_i64 h.2.2
  have hu := Try.underlying62
  have hi := Try.underlying3
  obtain ⟨m, hm⟩ := gu_types
  unfold keyOf
  simp only [hu]
  rw [if_pos (by simp [gu_key, Value.formed, hu, gu_cells]), hm]
  unfold Program.keyLits
  simp only [hu, Value.cells]
  rw [if_pos ⟨by rw [gu_cells]; rfl, by simp⟩]
  simp [int_cells, Program.keyLits, hi, w1, w2, w3, kg]
theorem kg_inj {p q : Gt} (hp : Gu64 p) (hq : Gu64 q) (h : kg p = kg q) : p = q := by
  have h1 := key_gu p hp
  have h2 := key_gu q hq
  rw [← h] at h2
  have := gu_law.inj h1 h2
  simp at this
  exact Prod.ext this.1 (Prod.ext this.2.1 this.2.2)
/-- Block b is a map from these guaranteed changes to true. -/
def MapU (w : World) (b : Nat) (ls : List Gt) : Prop := (∀ p ∈ ls, Gu64 p) ∧ ∃ D : Dm, w.ownsMap Try.prog 62 (plainElem Try.prog 4) b ls.length D ∧ IsMap D ∧ (∀ p, Gu64 p → has D (.string (kg p)) = decide (p ∈ ls)) ∧ ∀ p z, p ∈ ls → D.atKey (.string (kg p)) z = .lit (.bool true)
theorem MapU.made (w : World) : MapU (w.alloc (.map #[] 0)) w.heap.size [] := ⟨fun p hp => absurd hp (by simp), .map [], World.ownsMap_made _ _ _ _, isMap_empty, fun x _ => by simp [has_eq], fun x z h => by simp at h⟩
theorem MapU.lt {w : World} {b : Nat} {ls : List Gt} (h : MapU w b ls) : b < w.heap.size := by
  obtain ⟨_, D, h1, _⟩ := h
  exact h1.lt
theorem MapU.below {w w' : World} {b : Nat} {ls : List Gt} (h : MapU w b ls) (hb : Below w.heap.size w w') : MapU w' b ls := by
  obtain ⟨h0, D, h1, h2⟩ := h
  exact ⟨h0, D, h1.kept (below_no hb) (by simp), h2⟩
theorem MapU.look {w : World} {b : Nat} {ls : List Gt} (h : MapU w b ls) (p : Gt) (hp : Gu64 p) :
    (Instr.lookup 60 (.map (some b)) (guV p) false).run Try.prog w = .ok (.bool (decide (p ∈ ls))) w := by
  obtain ⟨h0, D, h1, h2, h3, h4⟩ := h
  obtain ⟨v, ps, hrun, hv⟩ := h1.lookup gu_law Try.underlying60 (zero_bool w) (plainElem_bool Try.underlying4 false) (key_gu p hp)
  obtain ⟨c, rfl, hc⟩ := pbool_inv hv
  have hc := congrArg Prod.fst hc
  rw [hrun]
  have : c = decide (p ∈ ls) := by
    by_cases hm : p ∈ ls
    · rw [h4 _ _ hm] at hc
      simp at hc
      simp [hm, ← hc]
    · rw [atKey_of_not_has (by rw [h3 p hp]; exact decide_eq_false hm)] at hc
      simp at hc
      simp [hm, ← hc]
  rw [this]
/-- A store. -/
theorem MapU.update {w : World} {b : Nat} {ls : List Gt} (h : MapU w b ls) (p : Gt) (hp : Gu64 p) (hl : ls.length < 1099511627776) :
    ∃ w', (Instr.mapUpdate 60 (.map (some b)) (guV p) (.bool true)).run Try.prog w = .ok () w' ∧ MapU w' b (ls ++ [p]) ∧ w.grownBy w' (some b) := by
  obtain ⟨h0, D, h1, h2, h3, h4⟩ := h
  obtain ⟨w', hrun, g1, g2⟩ := h1.update gu_law Try.underlying60 (by unfold maxLen; omega) (key_gu p hp) (plainElem_bool Try.underlying4 true)
  refine ⟨w', hrun, ⟨fun q hq => ?_, _, by rw [List.length_append]; exact g1, h2.put _ _, fun q hq => ?_, fun q z hi => ?_⟩, g2⟩
  · rcases List.mem_append.1 hq with hq | hq
    · exact h0 q hq
    · rw [List.mem_singleton.1 hq]; exact hp
  · by_cases hx : q = p
    · subst hx
      rw [has_put_same h2 (by simp [WideAt.IsKeyLit])]
      simp
    · rw [has_put_other (fun e => hx (kg_inj hq hp (by simpa using e))), h3 q hq]
      simp [hx]
  · by_cases hx : q = p
    · subst hx
      rw [atKey_put_same h2 (by simp [WideAt.IsKeyLit])]
    · have hq : q ∈ ls := by simpa [hx] using hi
      rw [atKey_put_other (fun e => hx (kg_inj (h0 q hq) hp (by simpa using e)))]
      exact h4 q z hq
end Go.Proofs.Ytkballjadkhepaa
