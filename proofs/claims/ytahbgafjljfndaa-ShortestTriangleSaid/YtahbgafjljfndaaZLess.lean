/-
  Costs compared; an edge added to a cost; the order of what waits in a queue by its cost. Condition: none beyond each theorem's own hypotheses.
-/
import Derived.Test.YtahbgafjljfndaaRow
import Derived.Test.YtahbgafjljfndaaHeap
import Derived.Test.YtahbgafjljfndaaDjk
namespace Go.Proofs.Ytahbgafjljfndaa
open Go.RowKit

/-- What waits: a node, its cost. -/
abbrev Pr := Int × Int × Int
def Ok3 (_ : Pr) : Prop := True
def lCost (a b : Pr) : Bool := ltC a.2 b.2
theorem cost_ord : IsOrd lCost := by
  refine ⟨fun a b h1 => ?_, fun a b c h1 h2 => ?_⟩
  · unfold lCost at *
    have := (ltC_iff a.2 b.2).1 h1
    cases h : ltC b.2 a.2 with
    | false => rfl
    | true => have := (ltC_iff b.2 a.2).1 h; omega
  · unfold lCost at *
    have x1 : ¬ _ := fun h => by rw [(ltC_iff a.2 b.2).2 h] at h1; cases h1
    have x2 : ¬ _ := fun h => by rw [(ltC_iff b.2 c.2).2 h] at h2; cases h2
    cases h : ltC a.2 c.2 with
    | false => rfl
    | true => have := (ltC_iff a.2 c.2).1 h; omega
set_option maxHeartbeats 1000000 in
theorem cless_any (c d : Ct) (w : World) : Calls Try.prog 36 #[.agg #[.int .i64 c.1, .int .i64 c.2], .agg #[.int .i64 d.1, .int .i64 d.2]] w fun e w' => e = .returned (.bool (ltC c d)) ∧ Below w.heap.size w w' := by
  have BB : Hid (∀ A B : Obj, Below w.heap.size w ((w.alloc A).alloc B)) := fun A B => ((Below.refl _ _).alloc (Nat.le_refl _) _).alloc (by simp) _
  by_cases h1 : c.1 < d.1
  · have R : Hid (ltC c d = true) := (ltC_iff c d).2 (.inl h1)
    go_enter Try.func36, Try.ntmps36
    go_wp2_with fail
    go_ret
    exact ⟨ret_bool (by rw [R.out]), BB.out _ _⟩
  · have d1 : decide (c.1 < d.1) = false := decide_eq_false h1
    by_cases h2 : c.1 = d.1
    · have e2 : (c.1 == d.1) = true := beq_true h2
      by_cases h3 : c.2 < d.2
      · have R : Hid (ltC c d = true) := (ltC_iff c d).2 (.inr ⟨h2, h3⟩)
        clear h1 h2
        go_enter Try.func36, Try.ntmps36
        go_wp2_with fail
        go_ret
        exact ⟨ret_bool (by rw [R.out]), BB.out _ _⟩
      · have d3 : decide (c.2 < d.2) = false := decide_eq_false h3
        have R : Hid (ltC c d = false) := by
          cases h : ltC c d with
          | false => exact rfl
          | true => have := (ltC_iff c d).1 h; omega
        clear h1 h2 h3
        go_enter Try.func36, Try.ntmps36
        go_wp2_with fail
        go_ret
        exact ⟨ret_bool (by rw [R.out]), BB.out _ _⟩
    · have e2 : (c.1 == d.1) = false := beq_false h2
      have R : Hid (ltC c d = false) := by
        cases h : ltC c d with
        | false => exact rfl
        | true => have := (ltC_iff c d).1 h; omega
      clear h1 h2
      go_enter Try.func36, Try.ntmps36
      go_wp2_with fail
      go_ret
      exact ⟨ret_bool (by rw [R.out]), BB.out _ _⟩
theorem vless_any (a b : Pr) (w : World) : Calls Try.prog 35 #[.agg #[.int .i64 a.1, .int .i64 a.2.1, .int .i64 a.2.2], .agg #[.int .i64 b.1, .int .i64 b.2.1, .int .i64 b.2.2]] w fun e w' => e = .returned (.bool (lCost a b)) ∧ Below w.heap.size w w' := by
  have C := Lib.hid (fun W => cless_any a.2 b.2 W)
  go_enter Try.func35, Try.ntmps35
  go_wp2_with fail
  refine (C.out _).mono ?_
  rintro e w1 ⟨rfl, b1⟩
  go_wp2_with fail
  go_ret
  exact ⟨rfl, (((Below.refl _ _).alloc (Nat.le_refl _) _).alloc (by simp) _).trans (b1.mono (by simp; omega))⟩
/-- A cost with one more edge. -/
theorem plus_any (c : Ct) (u x : Int) (q : Nat) (h1 : -4611686018427387000 ≤ c.1) (h2 : c.1 ≤ 4611686018427387000) (h3 : -4611686018427387000 ≤ c.2) (h4 : c.2 ≤ 4611686018427387000) (hq : q ≤ 4611686018427387000) (w : World) :
    Calls Try.prog 40 #[.agg #[.int .i64 c.1, .int .i64 c.2], .agg #[.int .i64 u, .int .i64 x, .int .i64 (q : Int)]] w fun e w' => e = .returned (.agg #[.int .i64 (plusC c q).1, .int .i64 (plusC c q).2]) ∧ Below w.heap.size w w' := by
  have R : Hid (plusC c q = (c.1 + (q : Int), c.2 + 1)) := rfl
  have W1 : wrap64 (c.1 + (q : Int)) = c.1 + (q : Int) := by unfold wrap64; omega
  go_enter Try.func40, Try.ntmps40
  go_wp2_with fail
  exact bodyPost_ret (v := .agg #[.int .i64 (c.1 + (q : Int)), .int .i64 (c.2 + 1)]) (by simp [results, Try.results40, go_sem]) rfl ⟨by rw [R.out], (((Below.refl _ _).alloc (Nat.le_refl _) _).alloc (by simp) _).alloc (by simp; omega) _⟩
end Go.Proofs.Ytahbgafjljfndaa
