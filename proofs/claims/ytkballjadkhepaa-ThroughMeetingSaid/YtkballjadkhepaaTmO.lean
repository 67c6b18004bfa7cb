/-
  Through services, guaranteed changes, frequencies, calls and tables of them among the arguments of this package's laws. Condition: none beyond each theorem's own hypotheses.
-/
import Derived.Test.YtkballjadkhepaaTmL
import Derived.Test.YtkballjadkhepaaTpO
import Derived.Lib.SmallJoins
namespace Go.Proofs.Ytkballjadkhepaa
open Go.RowKit Go.ChangeShapes Go.WideShapes Go.Deep

instance : Inhabited Th := ⟨(0, 0)⟩
instance : Inhabited Gt := ⟨(0, 0, 0)⟩
instance : Inhabited Fq := ⟨(0, 0, 0, 0)⟩
theorem trod_thr {H : Type} {enc : TypeId × Value → H} {W : World} {n : Nat} {cs : List Value} {x : DataW H × List MemPlace} (h : DataW.trod enc Try.prog W 0 (fun _ => true) true n 54 cs = some x) : ∃ a : Th, (Ix64 a.1 ∧ Ix64 a.2) ∧ cs = hh a := by
  obtain ⟨y0, y1, n, _, hl, h0, h1⟩ := trod_struct2 Try.underlying54 h
  rw [show Try.prog.cellsOf 54 = 2 by kernel_rfl] at hl
  match cs, hl with
  | [c0, c1], _ =>
    simp only [show Try.prog.cellsOf 3 = 1 by kernel_rfl] at h0 h1
    obtain ⟨a, e0, _, w0⟩ := DataW.trod_int Try.underlying3 h0
    obtain ⟨b, e1, _, w1⟩ := DataW.trod_int Try.underlying3 h1
    simp at e0 e1
    subst e0 e1
    exact ⟨(a, b), ⟨⟨int_low w0, int_top w0⟩, int_low w1, int_top w1⟩, rfl⟩
theorem trod_gua {H : Type} {enc : TypeId × Value → H} {W : World} {n : Nat} {cs : List Value} {x : DataW H × List MemPlace} (h : DataW.trod enc Try.prog W 0 (fun _ => true) true n 62 cs = some x) : ∃ a : Gt, Gu64 a ∧ cs = gg a := by
  obtain ⟨y0, y1, y2, n, _, hl, h0, h1, h2⟩ := trod_struct3 Try.underlying62 h
  rw [show Try.prog.cellsOf 62 = 3 by kernel_rfl] at hl
  match cs, hl with
  | [c0, c1, c2], _ =>
    simp only [show Try.prog.cellsOf 3 = 1 by kernel_rfl] at h0 h1 h2
    obtain ⟨a, e0, _, w0⟩ := DataW.trod_int Try.underlying3 h0
    obtain ⟨b, e1, _, w1⟩ := DataW.trod_int Try.underlying3 h1
    obtain ⟨c, e2, _, w2⟩ := DataW.trod_int Try.underlying3 h2
    simp at e0 e1 e2
    subst e0 e1 e2
    exact ⟨(a, b, c), ⟨⟨int_low w0, int_top w0⟩, ⟨int_low w1, int_top w1⟩, int_low w2, int_top w2⟩, rfl⟩
theorem trod_freq {H : Type} {enc : TypeId × Value → H} {W : World} {n : Nat} {cs : List Value} {x : DataW H × List MemPlace} (h : DataW.trod enc Try.prog W 0 (fun _ => true) true n 70 cs = some x) : ∃ a : Fq, (fun _ : Fq => True) a ∧ cs = fe a := by
  obtain ⟨y0, y1, y2, y3, n, _, hl, h0, h1, h2, h3⟩ := Go.Joins.trod_struct4 Try.underlying70 h
  rw [show Try.prog.cellsOf 70 = 4 by kernel_rfl] at hl
  match cs, hl with
  | [c0, c1, c2, c3], _ =>
    simp only [show Try.prog.cellsOf 3 = 1 by kernel_rfl] at h0 h1 h2 h3
    obtain ⟨t, e0, -⟩ := DataW.trod_int Try.underlying3 h0
    obtain ⟨a, e1, -⟩ := DataW.trod_int Try.underlying3 h1
    obtain ⟨b, e2, -⟩ := DataW.trod_int Try.underlying3 h2
    obtain ⟨v, e3, -⟩ := DataW.trod_int Try.underlying3 h3
    simp at e0 e1 e2 e3
    subst e0 e1 e2 e3
    exact ⟨(t, a, b, v), trivial, rfl⟩
section
variable {H : Type} {enc : TypeId × Value → H} {W : World} {base : Nat} {v : Value} {d : DataW H} {ps : List MemPlace}
theorem open_list_Through (hval : Value.okWide Try.prog W .any base 22 v) (h : DataW.Trod enc Try.prog W 0 (fun _ => true) true 22 v d ps) :
    ∃ l : List Th, LstH W v l ∧ l.length ≤ 9223372036854775807 ∧ (∀ x ∈ ps, x.block < W.heap.size) ∧ Th64 l := by
  obtain ⟨l, h1, h2, h3, h4⟩ := open_listG (ok := fun x : Th => Ix64 x.1 ∧ Ix64 x.2) (by decide) hh_len Try.underlying22 (by kernel_rfl) (fun _ _ _ h => trod_thr h) hval h
  exact ⟨l, h1, h2, h3, h4⟩
theorem open_list_Call (hval : Value.okWide Try.prog W .any base 43 v) (h : DataW.Trod enc Try.prog W 0 (fun _ => true) true 43 v d ps) :
    ∃ l : List Cl, LstC W v l ∧ l.length ≤ 9223372036854775807 ∧ (∀ x ∈ ps, x.block < W.heap.size) ∧ OkCs l := by
  obtain ⟨l, h1, h2, h3, -⟩ := open_listG (ok := fun _ : Cl => True) (by decide) cc_len Try.underlying43 (by kernel_rfl) (fun _ _ _ h => by obtain ⟨a, -, rfl⟩ := trod_callS h; exact ⟨a, trivial, rfl⟩) hval h
  exact ⟨l, h1, h2, h3, trivial⟩
/-- A table by value. -/
theorem open_Table (hval : Value.okWide Try.prog W .any base 27 v) (h : DataW.Trod enc Try.prog W 0 (fun _ => true) true 27 v d ps) :
    ∃ (vl : Value) (l : List Th) (vu : Value) (u : List Gt) (vt : Value) (ts : List Tp) (vf : Value) (f : List Fq) (st : Int), v = .agg #[vl, vu, vt, vf, .int .i64 st] ∧ (∀ x ∈ ps, x.block < W.heap.size) ∧
      LstH W vl l ∧ l.length ≤ 9223372036854775807 ∧ Th64 l ∧ LstU W vu u ∧ u.length ≤ 9223372036854775807 ∧ Gus64 u ∧ LstTp W vt ts ∧ ts.length ≤ 9223372036854775807 ∧ OkTs ts ∧ LstF W vf f ∧ f.length ≤ 9223372036854775807 ∧ OkFs f := by
  have hlt := (trodAll_mk1 h).lt
  obtain ⟨v0, v1, v2, v3, v4, y0, y1, y2, y3, y4, n, rfl, h0, h1, h2, h3, h4⟩ := open_agg5 Try.underlying27 (by kernel_rfl) (by kernel_rfl) hval h
  obtain ⟨vl, l, e0, a1, a2, a3⟩ := trod_listG (ok := fun x : Th => Ix64 x.1 ∧ Ix64 x.2) (by decide) hh_len Try.underlying22 (by kernel_rfl) (fun _ _ _ h => trod_thr h) h0
  obtain ⟨vu, u, e1, b1, b2, b3⟩ := trod_listG (ok := fun x : Gt => Gu64 x) (by decide) gg_len Try.underlying23 (by kernel_rfl) (fun _ _ _ h => trod_gua h) h1
  obtain ⟨vt, ts, e2, c1, c2, c3⟩ := trod_listG (ok := OkT W) (by decide) te_len Try.underlying24 (by kernel_rfl) (fun _ _ _ h => trod_trip h) h2
  obtain ⟨vf, f, e3, d1, d2, -⟩ := trod_listG (ok := fun _ : Fq => True) (by decide) fe_len Try.underlying25 (by kernel_rfl) (fun _ _ _ h => trod_freq h) h3
  obtain ⟨st, e4, -⟩ := DataW.trod_int Try.underlying3 h4
  simp at e0 e1 e2 e3 e4
  subst e0 e1 e2 e3 e4
  exact ⟨_, l, _, u, _, ts, _, f, st, rfl, hlt, a1, a2, a3, b1, b2, b3, ⟨c1, c3⟩, c2, trivial, d1, d2, trivial⟩
end
end Go.Proofs.Ytkballjadkhepaa
