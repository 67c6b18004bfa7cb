/-
  Whether two lists of ints are the same (transitref03.SameInts): what the call answers; it only draws. Condition: lists of fewer than 2^40 ints.
-/
import Derived.Test.YtkballjadkhepaaOwnI
namespace Go.Proofs.Ytkballjadkhepaa
open Go.RowKit

/-- A contract that only draws, in a region that draws. -/
theorem quiet_on {P : Program} {f : FuncId} {args : Array Value} {x : Value} (h : ∀ w : World, Calls P f args w fun e w' => e = .returned x ∧ ∃ m, w' = w.drewN m) (w : World) (n : Nat) : Calls P f args (w.drewN n) fun e w'' => e = .returned x ∧ ∃ m, w'' = w.drewN m :=
  (h _).mono fun _ _ ⟨he, m, hm⟩ => ⟨he, n + m, by rw [hm, World.drewN_drewN]⟩
theorem Calls.below {P : Program} {f : FuncId} {args : Array Value} {x : Ending} {w : World} (h : Calls P f args w fun e w' => e = x ∧ ∃ m, w' = w.drewN m) : Calls P f args w fun e w' => e = x ∧ Below w.heap.size w w' :=
  h.mono fun _ _ ⟨he, m, hm⟩ => ⟨he, hm ▸ below_drewN (Below.refl _ _) m⟩
theorem drew_below {w wr : World} (h : ∃ n, wr = w.drewN n) : Below w.heap.size w wr := by
  obtain ⟨n, rfl⟩ := h
  exact below_drewN (Below.refl _ _) n
theorem drew_on {w wr : World} (h : Hid (∃ n, wr = w.drewN n)) (m : Nat) : Hid (∃ n, wr.drewN m = w.drewN n) := by
  obtain ⟨n, rfl⟩ := h.out
  exact Lib.hid ⟨n + m, World.drewN_drewN _ _ _⟩

theorem same_at {a b : List Int} (k : Nat) (x y : Int) (hx : a[k]? = some x) (hy : b[k]? = some y) (h : x ≠ y) : decide (a = b) = false := by
  rw [decide_eq_false_iff_not]
  intro e
  rw [e, hy] at hx
  exact h (Option.some.inj hx).symm
theorem same_of {a b : List Int} (hl : a.length = b.length) (h : ∀ (j : Nat) x, j < a.length → a[j]? = some x → b[j]? = some x) : decide (a = b) = true := by
  rw [decide_eq_true_iff]
  apply List.ext_getElem? fun j => ?_
  by_cases hj : j < a.length
  · obtain ⟨x, hx⟩ := at_lt hj
    rw [hx, h j x hj hx]
  · rw [List.getElem?_eq_none (by omega), List.getElem?_eq_none (by omega)]
end Go.Proofs.Ytkballjadkhepaa
