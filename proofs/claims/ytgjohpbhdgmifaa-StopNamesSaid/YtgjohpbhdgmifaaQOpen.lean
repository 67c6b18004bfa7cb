/-
  The slices of stops among the arguments of this package's laws. Condition: none beyond each theorem's own hypotheses.
-/
import Derived.Test.YtgjohpbhdgmifaaQZns
import Derived.Deep.Strs
import Derived.Lib.SmallJoins
namespace Go.Proofs.Ytgjohpbhdgmifaa
open Go.RowKit Go.ChangeShapes Go.WideShapes Go.Deep

theorem trod_stop {H : Type} {enc : TypeId × Value → H} {W : World} {n : Nat} {cs : List Value} {x : DataW H × List MemPlace} (h : DataW.trod enc Try.prog W 0 (fun _ => true) true n 43 cs = some x) : ∃ a : St, ((-9223372036854775808 ≤ a.2.1 ∧ a.2.1 ≤ 9223372036854775807) ∧ -9223372036854775808 ≤ a.2.2.2 ∧ a.2.2.2 ≤ 9223372036854775807) ∧ cs = se a := by
  obtain ⟨y0, y1, y2, y3, n, _, hl, h0, h1, h2, h3⟩ := Go.Joins.trod_struct4 Try.underlying43 h
  rw [show Try.prog.cellsOf 43 = 4 by kernel_rfl] at hl
  match cs, hl with
  | [c0, c1, c2, c3], _ =>
    simp only [show Try.prog.cellsOf 9 = 1 by kernel_rfl, show Try.prog.cellsOf 3 = 1 by kernel_rfl, show Try.prog.cellsOf 4 = 1 by kernel_rfl] at h0 h1 h2 h3
    obtain ⟨s, e0, -⟩ := DataW.trod_string Try.underlying9 h0
    obtain ⟨z, e1, _, w1⟩ := DataW.trod_int Try.underlying3 h1
    obtain ⟨f, e2, -⟩ := DataW.trod_bool Try.underlying4 h2
    obtain ⟨c, e3, _, w3⟩ := DataW.trod_int Try.underlying3 h3
    simp at e0 e1 e2 e3
    subst e0 e1 e2 e3
    refine ⟨(s.data.toList, z, f, c), ⟨⟨int_low w1, int_top w1⟩, int_low w3, int_top w3⟩, ?_⟩
    unfold se
    rw [str_list]
instance : Inhabited St := ⟨([], 0, false, 0)⟩
theorem open_list_Stop {H : Type} {enc : TypeId × Value → H} {W : World} {base : Nat} {v : Value} {d : DataW H} {ps : List MemPlace} (hval : Value.okWide Try.prog W .any base 22 v)
    (h : DataW.Trod enc Try.prog W 0 (fun _ => true) true 22 v d ps) : ∃ l : List St, LstS W v l ∧ l.length ≤ 9223372036854775807 ∧ (∀ x ∈ ps, x.block < W.heap.size) ∧ OkS l :=
  open_listG (by decide) se_len Try.underlying22 (by kernel_rfl) (fun _ _ _ h => by obtain ⟨a, h1, rfl⟩ := trod_stop h; exact ⟨a, h1, rfl⟩) hval h
end Go.Proofs.Ytgjohpbhdgmifaa
