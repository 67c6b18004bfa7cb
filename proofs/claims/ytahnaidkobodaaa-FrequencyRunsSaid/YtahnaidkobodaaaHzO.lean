/-
  Slices of frequencies among the arguments of this package's laws. Condition: none beyond each theorem's own hypotheses.
-/
import Derived.Test.YtahnaidkobodaaaHzN
import Derived.Test.YtahnaidkobodaaaTpO
import Derived.Lib.SmallJoins
namespace Go.Proofs.Ytahnaidkobodaaa
open Go.RowKit Go.ChangeShapes Go.WideShapes Go.Deep

theorem trod_freq {H : Type} {enc : TypeId × Value → H} {W : World} {n : Nat} {cs : List Value} {x : DataW H × List MemPlace} (h : DataW.trod enc Try.prog W 0 (fun _ => true) true n 35 cs = some x) : ∃ a : Fq, (fun _ : Fq => True) a ∧ cs = fe a := by
  obtain ⟨y0, y1, y2, y3, n, _, hl, h0, h1, h2, h3⟩ := Go.Joins.trod_struct4 Try.underlying35 h
  rw [show Try.prog.cellsOf 35 = 4 by kernel_rfl] at hl
  match cs, hl with
  | [c0, c1, c2, c3], _ =>
    simp only [show Try.prog.cellsOf 3 = 1 by kernel_rfl] at h0 h1 h2 h3
    obtain ⟨t, e0, -⟩ := DataW.trod_int Try.underlying3 h0
    obtain ⟨a, e1, -⟩ := DataW.trod_int Try.underlying3 h1
    obtain ⟨b, e2, -⟩ := DataW.trod_int Try.underlying3 h2
    obtain ⟨v, e3, -⟩ := DataW.trod_int Try.underlying3 h3
    simp at e0 e1 e2 e3
    subst e0 e1 e2 e3
    exact ⟨(t, a, b, v), trivial, rfl⟩
theorem open_list_Frequency {H : Type} {enc : TypeId × Value → H} {W : World} {base : Nat} {v : Value} {d : DataW H} {ps : List MemPlace} (hval : Value.okWide Try.prog W .any base 22 v)
    (h : DataW.Trod enc Try.prog W 0 (fun _ => true) true 22 v d ps) : ∃ l : List Fq, LstF W v l ∧ l.length ≤ 9223372036854775807 ∧ (∀ x ∈ ps, x.block < W.heap.size) ∧ OkFs l := by
  obtain ⟨l, h1, h2, h3, -⟩ := open_listG (ok := fun _ : Fq => True) (by decide) fe_len Try.underlying22 (by kernel_rfl) (fun _ _ _ h => trod_freq h) hval h
  exact ⟨l, h1, h2, h3, trivial⟩
end Go.Proofs.Ytahnaidkobodaaa
