/-
  Trips among the arguments of a package's laws: a slice of them, one by value. Condition: none beyond each theorem's own hypotheses.
-/
import Derived.Test.YtkballjadkhepaaTpS
import Derived.Test.YtkballjadkhepaaOpenS
import Derived.Test.YtkballjadkhepaaRows
import Derived.ProofKit
import Derived.Lib.SmallJoins
namespace Go.Proofs.Ytkballjadkhepaa
open Go.RowKit Go.ChangeShapes Go.WideShapes Go.Deep

/-- What is asked of the trips among the arguments beside what the world says of them: nothing. -/
def OkTs (_ : List Tp) : Prop := True
theorem trod_callS {H : Type} {enc : TypeId × Value → H} {W : World} {n : Nat} {cs : List Value} {x : DataW H × List MemPlace} (h : DataW.trod enc Try.prog W 0 (fun _ => true) true n 51 cs = some x) : ∃ a : Cl, ((-9223372036854775808 ≤ a.1 ∧ a.1 ≤ 9223372036854775807) ∧ (-9223372036854775808 ≤ a.2.1 ∧ a.2.1 ≤ 9223372036854775807) ∧ -9223372036854775808 ≤ a.2.2.1 ∧ a.2.2.1 ≤ 9223372036854775807) ∧ cs = cc a := by
  obtain ⟨y0, y1, y2, y3, y4, n, hl, h0, h1, h2, h3, h4⟩ := trod_struct5 Try.underlying51 h
  rw [show Try.prog.cellsOf 51 = 5 by kernel_rfl] at hl
  match cs, hl with
  | [c0, c1, c2, c3, c4], _ =>
    simp only [show Try.prog.cellsOf 3 = 1 by kernel_rfl, show Try.prog.cellsOf 4 = 1 by kernel_rfl] at h0 h1 h2 h3 h4
    obtain ⟨s, e0, _, w0⟩ := DataW.trod_int Try.underlying3 h0
    obtain ⟨a, e1, _, w1⟩ := DataW.trod_int Try.underlying3 h1
    obtain ⟨d, e2, _, w2⟩ := DataW.trod_int Try.underlying3 h2
    obtain ⟨o, e3, -⟩ := DataW.trod_bool Try.underlying4 h3
    obtain ⟨u, e4, -⟩ := DataW.trod_bool Try.underlying4 h4
    simp at e0 e1 e2 e3 e4
    subst e0 e1 e2 e3 e4
    exact ⟨(s, a, d, o, u), ⟨⟨int_low w0, int_top w0⟩, ⟨int_low w1, int_top w1⟩, int_low w2, int_top w2⟩, rfl⟩
instance : Inhabited Cl := ⟨(0, 0, 0, false, false)⟩
instance : Inhabited Tp := ⟨([], 0, 0, false, .slice none 0 0, [])⟩
theorem trod_calls {H : Type} {enc : TypeId × Value → H} {W : World} {n : Nat} {cs : List Value} {x : DataW H × List MemPlace} (h : DataW.trod enc Try.prog W 0 (fun _ => true) true n 43 cs = some x) : ∃ v l, cs = [v] ∧ LstC W v l ∧ l.length ≤ 9223372036854775807 ∧ OkS l := by
  obtain ⟨v, l, e0, a1, a2, a3⟩ := trod_listG (by decide) cc_len Try.underlying43 (by kernel_rfl) (fun _ _ _ h => by obtain ⟨a, h1, rfl⟩ := trod_callS h; exact ⟨a, h1, rfl⟩) h
  exact ⟨v, l, e0, a1, a2, a3⟩
theorem trod_trip {H : Type} {enc : TypeId × Value → H} {W : World} {n : Nat} {cs : List Value} {x : DataW H × List MemPlace} (h : DataW.trod enc Try.prog W 0 (fun _ => true) true n 49 cs = some x) : ∃ a : Tp, OkT W a ∧ cs = te a := by
  obtain ⟨y0, y1, y2, y3, y4, n, hl, h0, h1, h2, h3, h4⟩ := trod_struct5 Try.underlying49 h
  rw [show Try.prog.cellsOf 49 = 5 by kernel_rfl] at hl
  match cs, hl with
  | [c0, c1, c2, c3, c4], _ =>
    simp only [show Try.prog.cellsOf 9 = 1 by kernel_rfl, show Try.prog.cellsOf 3 = 1 by kernel_rfl, show Try.prog.cellsOf 4 = 1 by kernel_rfl, show Try.prog.cellsOf 43 = 1 by kernel_rfl] at h0 h1 h2 h3 h4
    obtain ⟨s, e0, -⟩ := DataW.trod_string Try.underlying9 h0
    obtain ⟨r, e1, -⟩ := DataW.trod_int Try.underlying3 h1
    obtain ⟨k, e2, -⟩ := DataW.trod_int Try.underlying3 h2
    obtain ⟨f, e3, -⟩ := DataW.trod_bool Try.underlying4 h3
    obtain ⟨v, l, e4, a1, a2, a3⟩ := trod_calls h4
    simp at e0 e1 e2 e3 e4
    subst e0 e1 e2 e3 e4
    refine ⟨(s.data.toList, r, k, f, c4, l), ⟨a1, a2, a3⟩, ?_⟩
    unfold te
    rw [str_list]
section
variable {H : Type} {enc : TypeId × Value → H} {W : World} {base : Nat} {v : Value} {d : DataW H} {ps : List MemPlace}
theorem open_list_Trip (hval : Value.okWide Try.prog W .any base 24 v)
    (h : DataW.Trod enc Try.prog W 0 (fun _ => true) true 24 v d ps) : ∃ l : List Tp, LstTp W v l ∧ l.length ≤ 9223372036854775807 ∧ (∀ x ∈ ps, x.block < W.heap.size) ∧ OkTs l := by
  obtain ⟨l, h1, h2, h3, h4⟩ := open_listG (ok := OkT W) (by decide) te_len Try.underlying24 (by kernel_rfl) (fun _ _ _ h => trod_trip h) hval h
  exact ⟨l, ⟨h1, h4⟩, h2, h3, trivial⟩
/-- A trip by value. -/
theorem open_Trip (hval : Value.okWide Try.prog W .any base 49 v) (h : DataW.Trod enc Try.prog W 0 (fun _ => true) true 49 v d ps) :
    ∃ (s : ByteArray) (r c : Int) (f : Bool) (cv : Value) (l : List Cl), v = .agg #[.string s, .int .i64 r, .int .i64 c, .bool f, cv] ∧ (∀ x ∈ ps, x.block < W.heap.size) ∧ LstC W cv l ∧ l.length ≤ 9223372036854775807 ∧ OkS l := by
  have hlt := (trodAll_mk1 h).lt
  obtain ⟨v0, v1, v2, v3, v4, y0, y1, y2, y3, y4, n, rfl, h0, h1, h2, h3, h4⟩ := open_agg5 Try.underlying49 (by kernel_rfl) (by kernel_rfl) hval h
  obtain ⟨s, e0, -⟩ := DataW.trod_string Try.underlying9 h0
  obtain ⟨r, e1, -⟩ := DataW.trod_int Try.underlying3 h1
  obtain ⟨k, e2, -⟩ := DataW.trod_int Try.underlying3 h2
  obtain ⟨f, e3, -⟩ := DataW.trod_bool Try.underlying4 h3
  obtain ⟨cv, l, e4, a1, a2, a3⟩ := trod_calls h4
  simp at e0 e1 e2 e3 e4
  subst e0 e1 e2 e3 e4
  exact ⟨s, r, k, f, _, l, rfl, hlt, a1, a2, a3⟩
end
end Go.Proofs.Ytkballjadkhepaa
