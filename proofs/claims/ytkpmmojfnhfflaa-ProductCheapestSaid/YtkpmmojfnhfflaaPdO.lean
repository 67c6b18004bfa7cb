/-
  Products, rides and fares among the arguments of this package's laws. Condition: none beyond each theorem's own hypotheses.
-/
import Derived.Test.YtkpmmojfnhfflaaPdS
import Derived.Test.YtkpmmojfnhfflaaOpenS
import Derived.Deep.Strs
import Derived.Lib.SmallJoins
namespace Go.Proofs.Ytkpmmojfnhfflaa
open Go.RowKit Go.ChangeShapes Go.WideShapes Go.Deep

instance : Inhabited Pd := ⟨([], 0, 0, 0, 0, 0)⟩
instance : Inhabited Ri := ⟨(0, 0, 0, 0)⟩
theorem trod_struct6 {H : Type} {enc : TypeId × Value → H} {P : Program} {w : World} {base : Nat} {spare : Nat → Bool} {held : Bool} {t : TypeId} {f0 f1 f2 f3 f4 f5 : Field} {fuel : Nat} {cs : List Value} {x : DataW H × List MemPlace} (ht : P.underlying t = some (.struct #[f0, f1, f2, f3, f4, f5])) (h : DataW.trod enc P w base spare held fuel t cs = some x) :
    ∃ y0 y1 y2 y3 y4 y5 n, cs.length = P.cellsOf t ∧ DataW.trod enc P w base spare held n f0.type ((cs.drop f0.offset).take (P.cellsOf f0.type)) = some y0 ∧
      DataW.trod enc P w base spare held n f1.type ((cs.drop f1.offset).take (P.cellsOf f1.type)) = some y1 ∧ DataW.trod enc P w base spare held n f2.type ((cs.drop f2.offset).take (P.cellsOf f2.type)) = some y2 ∧
      DataW.trod enc P w base spare held n f3.type ((cs.drop f3.offset).take (P.cellsOf f3.type)) = some y3 ∧ DataW.trod enc P w base spare held n f4.type ((cs.drop f4.offset).take (P.cellsOf f4.type)) = some y4 ∧
      DataW.trod enc P w base spare held n f5.type ((cs.drop f5.offset).take (P.cellsOf f5.type)) = some y5 := by
  obtain ⟨xs, n, _, rfl, hl, hlen, hf⟩ := DataW.trod_struct ht h
  match xs, hlen with
  | [y0, y1, y2, y3, y4, y5], _ => exact ⟨y0, y1, y2, y3, y4, y5, n, hl, by simpa using hf 0 f0 rfl, by simpa using hf 1 f1 rfl, by simpa using hf 2 f2 rfl, by simpa using hf 3 f3 rfl, by simpa using hf 4 f4 rfl, by simpa using hf 5 f5 rfl⟩
theorem array_six {α : Type} {a : Array α} (h : a.size = 6) : ∃ x0 x1 x2 x3 x4 x5, a = #[x0, x1, x2, x3, x4, x5] := by
  obtain ⟨l⟩ := a
  match l, h with
  | [x0, x1, x2, x3, x4, x5], _ => exact ⟨x0, x1, x2, x3, x4, x5, rfl⟩
/-- A struct of six one-cell fields by value. -/
theorem open_agg6 {H : Type} {enc : TypeId × Value → H} {P : Program} {w : World} {base : Nat} {spare : Nat → Bool} {held : Bool} {r : Reach} {b0 : Nat} {t : TypeId} {f0 f1 f2 f3 f4 f5 : Field} {v : Value} {d : DataW H} {p : List MemPlace} (hs : P.underlying t = some (.struct #[f0, f1, f2, f3, f4, f5])) (hone : oneCellFields P #[f0, f1, f2, f3, f4, f5] = true) (hC : P.cellsOf t = 6)
    (hv : Value.okWide P w r b0 t v) (h : DataW.Trod enc P w base spare held t v d p) :
    ∃ (v0 v1 v2 v3 v4 v5 : Value) (y0 y1 y2 y3 y4 y5 : DataW H × List MemPlace) (n : Nat), v = .agg #[v0, v1, v2, v3, v4, v5] ∧
      DataW.trod enc P w base spare held n f0.type [v0] = some y0 ∧ DataW.trod enc P w base spare held n f1.type [v1] = some y1 ∧ DataW.trod enc P w base spare held n f2.type [v2] = some y2 ∧ DataW.trod enc P w base spare held n f3.type [v3] = some y3 ∧ DataW.trod enc P w base spare held n f4.type [v4] = some y4 ∧ DataW.trod enc P w base spare held n f5.type [v5] = some y5 := by
  obtain ⟨cs, rfl, hsz⟩ := okWide_struct hs hv
  obtain ⟨c0, c1, c2, c3, c4, c5, rfl⟩ := array_six (hsz.trans hC)
  obtain ⟨fuel, hf⟩ := h
  obtain ⟨y0, y1, y2, y3, y4, y5, n, _, h0, h1, h2, h3, h4, h5⟩ := trod_struct6 hs hf
  obtain ⟨o0, k0⟩ := hone_of hone 0 f0 rfl
  obtain ⟨o1, k1⟩ := hone_of hone 1 f1 rfl
  obtain ⟨o2, k2⟩ := hone_of hone 2 f2 rfl
  obtain ⟨o3, k3⟩ := hone_of hone 3 f3 rfl
  obtain ⟨o4, k4⟩ := hone_of hone 4 f4 rfl
  obtain ⟨o5, k5⟩ := hone_of hone 5 f5 rfl
  exact ⟨c0, c1, c2, c3, c4, c5, y0, y1, y2, y3, y4, y5, n, rfl, by simpa [Value.cells, o0, k0] using h0, by simpa [Value.cells, o1, k1] using h1, by simpa [Value.cells, o2, k2] using h2, by simpa [Value.cells, o3, k3] using h3, by simpa [Value.cells, o4, k4] using h4, by simpa [Value.cells, o5, k5] using h5⟩
/-- What is known of a product, a ride that came in: its ints have 64 bits. -/
def OkPd1 (x : Pd) : Prop := Ix64 x.2.2.1 ∧ Ix64 x.2.2.2.1 ∧ Ix64 x.2.2.2.2.1
def OkPds (l : List Pd) : Prop := ∀ x ∈ l, OkPd1 x
def OkRi1 (x : Ri) : Prop := Ix64 x.1
def OkRis (l : List Ri) : Prop := ∀ x ∈ l, OkRi1 x
theorem trod_prod {H : Type} {enc : TypeId × Value → H} {W : World} {n : Nat} {cs : List Value} {x : DataW H × List MemPlace} (h : DataW.trod enc Try.prog W 0 (fun _ => true) true n 34 cs = some x) : ∃ a : Pd, OkPd1 a ∧ cs = pdE a := by
  obtain ⟨y0, y1, y2, y3, y4, y5, n, hl, h0, h1, h2, h3, h4, h5⟩ := trod_struct6 Try.underlying34 h
  rw [show Try.prog.cellsOf 34 = 6 by kernel_rfl] at hl
  match cs, hl with
  | [c0, c1, c2, c3, c4, c5], _ =>
    simp only [show Try.prog.cellsOf 9 = 1 by kernel_rfl, show Try.prog.cellsOf 3 = 1 by kernel_rfl] at h0 h1 h2 h3 h4 h5
    obtain ⟨s, e0, -⟩ := DataW.trod_string Try.underlying9 h0
    obtain ⟨p, e1, -⟩ := DataW.trod_int Try.underlying3 h1
    obtain ⟨r, e2, _, w2⟩ := DataW.trod_int Try.underlying3 h2
    obtain ⟨z, e3, _, w3⟩ := DataW.trod_int Try.underlying3 h3
    obtain ⟨t, e4, _, w4⟩ := DataW.trod_int Try.underlying3 h4
    obtain ⟨m, e5, -⟩ := DataW.trod_int Try.underlying3 h5
    simp at e0 e1 e2 e3 e4 e5
    subst e0 e1 e2 e3 e4 e5
    refine ⟨(s.data.toList, p, r, z, t, m), ⟨⟨int_low w2, int_top w2⟩, ⟨int_low w3, int_top w3⟩, int_low w4, int_top w4⟩, ?_⟩
    unfold pdE
    rw [str_list]
theorem trod_ride {H : Type} {enc : TypeId × Value → H} {W : World} {n : Nat} {cs : List Value} {x : DataW H × List MemPlace} (h : DataW.trod enc Try.prog W 0 (fun _ => true) true n 45 cs = some x) : ∃ a : Ri, OkRi1 a ∧ cs = riE a := by
  obtain ⟨y0, y1, y2, y3, n, _, hl, h0, h1, h2, h3⟩ := Go.Joins.trod_struct4 Try.underlying45 h
  rw [show Try.prog.cellsOf 45 = 4 by kernel_rfl] at hl
  match cs, hl with
  | [c0, c1, c2, c3], _ =>
    simp only [show Try.prog.cellsOf 3 = 1 by kernel_rfl] at h0 h1 h2 h3
    obtain ⟨t, e0, _, w0⟩ := DataW.trod_int Try.underlying3 h0
    obtain ⟨a, e1, -⟩ := DataW.trod_int Try.underlying3 h1
    obtain ⟨b, e2, -⟩ := DataW.trod_int Try.underlying3 h2
    obtain ⟨v, e3, -⟩ := DataW.trod_int Try.underlying3 h3
    simp at e0 e1 e2 e3
    subst e0 e1 e2 e3
    exact ⟨(t, a, b, v), ⟨int_low w0, int_top w0⟩, rfl⟩
section
variable {H : Type} {enc : TypeId × Value → H} {W : World} {base : Nat} {v : Value} {d : DataW H} {ps : List MemPlace}
theorem open_list_Ride (hval : Value.okWide Try.prog W .any base 31 v) (h : DataW.Trod enc Try.prog W 0 (fun _ => true) true 31 v d ps) :
    ∃ l : List Ri, LstRi W v l ∧ l.length ≤ 9223372036854775807 ∧ (∀ x ∈ ps, x.block < W.heap.size) ∧ OkRis l := by
  obtain ⟨l, h1, h2, h3, h4⟩ := open_listG (ok := OkRi1) (by decide) riE_len Try.underlying31 (by kernel_rfl) (fun _ _ _ h => trod_ride h) hval h
  exact ⟨l, h1, h2, h3, h4⟩
/-- Fares by value. -/
theorem open_Fares (hval : Value.okWide Try.prog W .any base 24 v) (h : DataW.Trod enc Try.prog W 0 (fun _ => true) true 24 v d ps) :
    ∃ (vl : Value) (l : List Pd) (di wi c : Int), v = faV vl di wi c ∧ (∀ x ∈ ps, x.block < W.heap.size) ∧ LstPd W vl l ∧ l.length ≤ 9223372036854775807 ∧ OkPds l := by
  have hlt := (trodAll_mk1 h).lt
  obtain ⟨v0, v1, v2, v3, y0, y1, y2, y3, n, rfl, -, -, h0, h1, h2, h3⟩ := Joins.open_agg4 Try.underlying24 (by kernel_rfl) (by kernel_rfl) hval h
  obtain ⟨vl, l, e0, a1, a2, a3⟩ := trod_listG (ok := OkPd1) (by decide) pdE_len Try.underlying22 (by kernel_rfl) (fun _ _ _ h => trod_prod h) h0
  obtain ⟨di, e1, -⟩ := DataW.trod_int Try.underlying3 h1
  obtain ⟨wi, e2, -⟩ := DataW.trod_int Try.underlying3 h2
  obtain ⟨c, e3, -⟩ := DataW.trod_int Try.underlying3 h3
  simp at e0 e1 e2 e3
  subst e0 e1 e2 e3
  exact ⟨_, l, di, wi, c, rfl, hlt, a1, a2, a3⟩
/-- A product by value. -/
theorem open_Product (hval : Value.okWide Try.prog W .any base 34 v) (h : DataW.Trod enc Try.prog W 0 (fun _ => true) true 34 v d ps) :
    ∃ (s : ByteArray) (p r z t m : Int), v = pdV s p r z t m ∧ (∀ x ∈ ps, x.block < W.heap.size) := by
  have hlt := (trodAll_mk1 h).lt
  obtain ⟨v0, v1, v2, v3, v4, v5, y0, y1, y2, y3, y4, y5, n, rfl, h0, h1, h2, h3, h4, h5⟩ := open_agg6 Try.underlying34 (by kernel_rfl) (by kernel_rfl) hval h
  obtain ⟨s, e0, -⟩ := DataW.trod_string Try.underlying9 h0
  obtain ⟨p, e1, -⟩ := DataW.trod_int Try.underlying3 h1
  obtain ⟨r, e2, -⟩ := DataW.trod_int Try.underlying3 h2
  obtain ⟨z, e3, -⟩ := DataW.trod_int Try.underlying3 h3
  obtain ⟨t, e4, -⟩ := DataW.trod_int Try.underlying3 h4
  obtain ⟨m, e5, -⟩ := DataW.trod_int Try.underlying3 h5
  simp at e0 e1 e2 e3 e4 e5
  subst e0 e1 e2 e3 e4 e5
  exact ⟨s, p, r, z, t, m, rfl, hlt⟩
end
end Go.Proofs.Ytkpmmojfnhfflaa
