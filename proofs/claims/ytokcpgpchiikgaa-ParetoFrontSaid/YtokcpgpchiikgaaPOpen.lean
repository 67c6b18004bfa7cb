/-
  The arrays of four ints, and the slices of them, among the arguments of this package's laws; the laws, ready for their rows. Condition: none beyond each theorem's own hypotheses.
-/
import Derived.Test.YtokcpgpchiikgaaOpenG
import Derived.Test.YtokcpgpchiikgaaPLaw5
import Derived.Laws.IdiomArrays
namespace Go.Proofs.Ytokcpgpchiikgaa
open Go.RowKit Go.ChangeShapes Go.WideShapes Go.Deep

def OkV (a : Vec) : Prop := (Lit.int .i64 a.1).wf = true ∧ (Lit.int .i64 a.2.1).wf = true ∧ (Lit.int .i64 a.2.2.1).wf = true ∧ (Lit.int .i64 a.2.2.2).wf = true
theorem trod_vec {H : Type} {enc : TypeId × Value → H} {W : World} {base : Nat} {spare : Nat → Bool} {held : Bool} {n : Nat} {cs : List Value} {x : DataW H × List MemPlace} (h : DataW.trod enc Try.prog W base spare held n 22 cs = some x) :
    ∃ a : Vec, OkV a ∧ cs = vc a ∧ x = (.agg [.lit (.int .i64 a.1), .lit (.int .i64 a.2.1), .lit (.int .i64 a.2.2.1), .lit (.int .i64 a.2.2.2)], []) := by
  have hl : cs.length = 4 := by
    obtain ⟨_, _, _, _, hl, _⟩ := DataW.trod_array Try.underlying22 h
    rw [hl]
    kernel_rfl
  match cs, hl with
  | [c0, c1, c2, c3], _ =>
    obtain ⟨y0, y1, y2, y3, m, rfl, h0, h1, h2, h3⟩ := trod_array4 Try.underlying22 (by kernel_rfl) h
    obtain ⟨a, e0, rfl, w0⟩ := DataW.trod_int Try.underlying3 h0
    obtain ⟨b, e1, rfl, w1⟩ := DataW.trod_int Try.underlying3 h1
    obtain ⟨c, e2, rfl, w2⟩ := DataW.trod_int Try.underlying3 h2
    obtain ⟨d, e3, rfl, w3⟩ := DataW.trod_int Try.underlying3 h3
    simp at e0 e1 e2 e3
    subst e0 e1 e2 e3
    exact ⟨(a, b, c, d), ⟨w0, w1, w2, w3⟩, rfl, rfl⟩
theorem open_vec {H : Type} {enc : TypeId × Value → H} {W : World} {base b0 : Nat} {spare : Nat → Bool} {held : Bool} {v : Value} {d : DataW H} {p : List MemPlace} (hval : Value.okWide Try.prog W .any b0 22 v) (h : DataW.Trod enc Try.prog W base spare held 22 v d p) :
    ∃ a : Vec, v = .agg #[.int .i64 a.1, .int .i64 a.2.1, .int .i64 a.2.2.1, .int .i64 a.2.2.2] ∧ d = .agg [.lit (.int .i64 a.1), .lit (.int .i64 a.2.1), .lit (.int .i64 a.2.2.1), .lit (.int .i64 a.2.2.2)] ∧ p = [] ∧ OkV a := by
  obtain ⟨cs, rfl⟩ : ∃ cs : Array Value, v = .agg cs := by
    simp only [Value.okWide, Try.underlying22] at hval
    obtain ⟨cs, h1, _⟩ := hval
    exact ⟨cs, h1⟩
  obtain ⟨n, hn⟩ := h
  obtain ⟨a, ha, hc, hx⟩ := trod_vec hn
  simp only [Prod.mk.injEq] at hx
  refine ⟨a, ?_, hx.1, hx.2, ha⟩
  have hc' : cs.toList = vc a := hc
  rw [show cs = (vc a).toArray by rw [← hc']]
  rfl
theorem shut_vec {H : Type} {enc : TypeId × Value → H} {W : World} {base : Nat} {spare : Nat → Bool} {held : Bool} {a : Vec} (ha : OkV a) :
    DataW.Trod enc Try.prog W base spare held 22 (.agg #[.int .i64 a.1, .int .i64 a.2.1, .int .i64 a.2.2.1, .int .i64 a.2.2.2]) (.agg [.lit (.int .i64 a.1), .lit (.int .i64 a.2.1), .lit (.int .i64 a.2.2.1), .lit (.int .i64 a.2.2.2)]) [] := by
  obtain ⟨h0, h1, h2, h3⟩ := ha
  refine ⟨2, ?_⟩
  have r4 : List.range 4 = [0, 1, 2, 3] := rfl
  have c1 : Try.prog.cellsOf 3 = 1 := by kernel_rfl
  have c4 : Try.prog.cellsOf 22 = 4 := by kernel_rfl
  simp [DataW.trod, Try.underlying22, Try.underlying3, Value.cells, r4, c1, c4, h0, h1, h2, h3]
theorem open_list_Arr4 {H : Type} {enc : TypeId × Value → H} {W : World} {base : Nat} {v : Value} {d : DataW H} {ps : List MemPlace} (hval : Value.okWide Try.prog W .any base 31 v)
    (h : DataW.Trod enc Try.prog W 0 (fun _ => true) true 31 v d ps) : ∃ l : List Vec, LstV W v l ∧ l.length ≤ 9223372036854775807 ∧ (∀ x ∈ ps, x.block < W.heap.size) ∧ ∀ a ∈ l, OkV a :=
  open_listG (by decide) vc_len Try.underlying31 (by kernel_rfl) (fun _ _ _ h => by obtain ⟨a, h1, rfl, _⟩ := trod_vec h; exact ⟨a, h1, rfl⟩) hval h
end Go.Proofs.Ytokcpgpchiikgaa
