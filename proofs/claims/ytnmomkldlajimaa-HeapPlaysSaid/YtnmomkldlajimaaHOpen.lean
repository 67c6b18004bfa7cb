/-
  The slices of pairs and of calls among the arguments of this package's laws. Condition: none beyond each theorem's own hypotheses.
-/
import Derived.Test.YtnmomkldlajimaaOpenP
import Derived.Test.YtnmomkldlajimaaHSt
namespace Go.Proofs.Ytnmomkldlajimaa
open Go.RowKit Go.ChangeShapes Go.WideShapes Go.Deep

theorem open_list_Pair {H : Type} {enc : TypeId × Value → H} {W : World} {base : Nat} {v : Value} {d : DataW H} {ps : List MemPlace} (hval : Value.okWide Try.prog W .any base 26 v)
    (h : DataW.Trod enc Try.prog W 0 (fun _ => true) true 26 v d ps) : ∃ l : List Pr, LstP W v l ∧ l.length ≤ 9223372036854775807 ∧ (∀ x ∈ ps, x.block < W.heap.size) ∧ ∀ a ∈ l, Ok2 a :=
  open_listG (by decide) pc_len Try.underlying26 (by kernel_rfl) (fun _ _ _ h => by obtain ⟨a, h1, rfl⟩ := trod_pair h; exact ⟨a, h1, rfl⟩) hval h
/-- A call as cells. -/
def oc (o : Int × Pr) : List Value := [.int .i64 o.1, .int .i64 o.2.1, .int .i64 o.2.2]
theorem oc_len (o : Int × Pr) : (oc o).length = 3 := rfl
theorem trod_op {H : Type} {enc : TypeId × Value → H} {W : World} {n : Nat} {cs : List Value} {x : DataW H × List MemPlace} (h : DataW.trod enc Try.prog W 0 (fun _ => true) true n 30 cs = some x) : ∃ o : Int × Pr, Ok2 o.2 ∧ cs = oc o := by
  obtain ⟨y0, y1, n, _, hl, h0, h1⟩ := trod_struct2 Try.underlying30 h
  rw [show Try.prog.cellsOf 30 = 3 by kernel_rfl] at hl
  match cs, hl with
  | [c0, c1, c2], _ =>
    simp only [show Try.prog.cellsOf 3 = 1 by kernel_rfl, show Try.prog.cellsOf 28 = 2 by kernel_rfl] at h0 h1
    obtain ⟨a, e0, _, _⟩ := DataW.trod_int Try.underlying3 h0
    obtain ⟨p, hp, e1⟩ := trod_pair h1
    simp at e0 e1
    obtain ⟨rfl, rfl⟩ := e1
    subst e0
    exact ⟨(a, p), hp, rfl⟩
theorem open_list_Op {H : Type} {enc : TypeId × Value → H} {W : World} {base : Nat} {v : Value} {d : DataW H} {ps : List MemPlace} (hval : Value.okWide Try.prog W .any base 22 v)
    (h : DataW.Trod enc Try.prog W 0 (fun _ => true) true 22 v d ps) : ∃ l : List (Int × Pr), LstG oc W v l ∧ l.length ≤ 9223372036854775807 ∧ (∀ x ∈ ps, x.block < W.heap.size) ∧ ∀ o ∈ l, Ok2 o.2 :=
  open_listG (by decide) oc_len Try.underlying22 (by kernel_rfl) (fun _ _ _ h => trod_op h) hval h
end Go.Proofs.Ytnmomkldlajimaa
