/-
  The slices of spans among the arguments of this package's laws; the laws, ready for their rows. Condition: none beyond each theorem's own hypotheses.
-/
import Derived.Test.YtmlmdggfcdakhaaOpenG
import Derived.Test.YtmlmdggfcdakhaaVLaw5
namespace Go.Proofs.Ytmlmdggfcdakhaa
open Go.RowKit Go.ChangeShapes Go.WideShapes Go.Deep

theorem trod_span {H : Type} {enc : TypeId × Value → H} {W : World} {n : Nat} {cs : List Value} {x : DataW H × List MemPlace} (h : DataW.trod enc Try.prog W 0 (fun _ => true) true n 24 cs = some x) : ∃ a : Sp, ((-9223372036854775808 ≤ a.1 ∧ a.1 ≤ 9223372036854775807) ∧ -9223372036854775808 ≤ a.2 ∧ a.2 ≤ 9223372036854775807) ∧ cs = sc a := by
  obtain ⟨y0, y1, n, _, hl, h0, h1⟩ := trod_struct2 Try.underlying24 h
  rw [show Try.prog.cellsOf 24 = 2 by kernel_rfl] at hl
  match cs, hl with
  | [c0, c1], _ =>
    simp only [show Try.prog.cellsOf 3 = 1 by kernel_rfl] at h0 h1
    obtain ⟨a, e0, _, w0⟩ := DataW.trod_int Try.underlying3 h0
    obtain ⟨b, e1, _, w1⟩ := DataW.trod_int Try.underlying3 h1
    simp at e0 e1
    subst e0 e1
    exact ⟨(a, b), ⟨⟨int_low w0, int_top w0⟩, int_low w1, int_top w1⟩, rfl⟩
theorem open_list_Span {H : Type} {enc : TypeId × Value → H} {W : World} {base : Nat} {v : Value} {d : DataW H} {ps : List MemPlace} (hval : Value.okWide Try.prog W .any base 22 v)
    (h : DataW.Trod enc Try.prog W 0 (fun _ => true) true 22 v d ps) : ∃ l : List Sp, LstV W v l ∧ l.length ≤ 9223372036854775807 ∧ (∀ x ∈ ps, x.block < W.heap.size) ∧ OkS l :=
  open_listG (by decide) sc_len Try.underlying22 (by kernel_rfl) (fun _ _ _ h => by obtain ⟨a, h1, rfl⟩ := trod_span h; exact ⟨a, h1, rfl⟩) hval h
end Go.Proofs.Ytmlmdggfcdakhaa
