/-
  Footpaths among the arguments of this package's laws, and the laws told of them. Condition: none beyond each theorem's own hypotheses.
-/
import Derived.Test.YtibakhobgfiklaaFqF
import Derived.Test.YtibakhobgfiklaaOpenI
import Derived.Test.YtibakhobgfiklaaOpenG
import Derived.Lib.SmallJoins
namespace Go.Proofs.Ytibakhobgfiklaa
open Go.RowKit Go.ChangeShapes Go.WideShapes Go.Deep

instance : Inhabited Fp := ⟨(0, 0, 0, false)⟩
set_option maxRecDepth 100000 in
theorem trod_foot {H : Type} {enc : TypeId × Value → H} {W : World} {n : Nat} {cs : List Value} {x : DataW H × List MemPlace} (h : DataW.trod enc Try.prog W 0 (fun _ => true) true n 42 cs = some x) : ∃ a : Fp, Ky64 (kyP a) ∧ cs = fe a := by
  obtain ⟨y0, y1, y2, y3, n, _, hl, h0, h1, h2, h3⟩ := Go.Joins.trod_struct4 Try.underlying42 h
  rw [show Try.prog.cellsOf 42 = 4 by kernel_rfl] at hl
  match cs, hl with
  | [c0, c1, c2, c3], _ =>
    simp only [show Try.prog.cellsOf 3 = 1 by kernel_rfl, show Try.prog.cellsOf 4 = 1 by kernel_rfl] at h0 h1 h2 h3
    obtain ⟨t, e0, _, w0⟩ := DataW.trod_int Try.underlying3 h0
    obtain ⟨a, e1, _, w1⟩ := DataW.trod_int Try.underlying3 h1
    obtain ⟨b, e2, -⟩ := DataW.trod_int Try.underlying3 h2
    obtain ⟨v, e3, -⟩ := DataW.trod_bool Try.underlying4 h3
    simp at e0 e1 e2 e3
    subst e0 e1 e2 e3
    exact ⟨(t, a, b, v), ⟨⟨int_low w0, int_top w0⟩, int_low w1, int_top w1⟩, rfl⟩
section
variable {H : Type} {enc : TypeId × Value → H} {W : World} {base : Nat} {v : Value} {d : DataW H} {ps : List MemPlace}
set_option maxRecDepth 100000 in
theorem open_list_Footpath (hval : Value.okWide Try.prog W .any base 22 v) (h : DataW.Trod enc Try.prog W 0 (fun _ => true) true 22 v d ps) :
    ∃ l : List Fp, LstF W v l ∧ l.length ≤ 9223372036854775807 ∧ (∀ x ∈ ps, x.block < W.heap.size) ∧ L64 l := by
  obtain ⟨l, h1, h2, h3, h4⟩ := open_listG (ok := fun x : Fp => Ky64 (kyP x)) (by decide) fe_len Try.underlying22 (by kernel_rfl) (fun _ _ _ h => trod_foot h) hval h
  exact ⟨l, h1, h2, h3, h4⟩
end
theorem checks_fin (v : Value) (l : List Fp) (_ : l.length ≤ 9223372036854775807) (h64 : L64 l) (st : Int) (w : World) (h : LstF w v l) : Calls Try.prog 3 #[v, .int .i64 st] w fun e w' => e = .returned (.bool true) ∧ Below w.heap.size w w' := checks_law v l h64 st w h
theorem closes_fin (v : Value) (l : List Fp) (_ : l.length ≤ 9223372036854775807) (h64 : L64 l) (st : Int) (w : World) (h : LstF w v l) : Calls Try.prog 4 #[v, .int .i64 st] w fun e w' => e = .returned (.bool true) ∧ Below w.heap.size w w' := closes_law v l h64 st w h
theorem times_fin (v : Value) (l : List Fp) (_ : l.length ≤ 9223372036854775807) (h64 : L64 l) (fr tt : Int) (w : World) (h : LstF w v l) : Calls Try.prog 5 #[v, .int .i64 fr, .int .i64 tt] w fun e w' => e = .returned (.bool true) ∧ Below w.heap.size w w' := times_law v l h64 fr tt w h
theorem arounds_fin (v : Value) (l : List Fp) (_ : l.length ≤ 9223372036854775807) (h64 : L64 l) (st mo : Int) (w : World) (h : LstF w v l) : Calls Try.prog 6 #[v, .int .i64 st, .int .i64 mo] w fun e w' => e = .returned (.bool true) ∧ Below w.heap.size w w' := arounds_law v l h64 st mo w h
theorem isc_fin (v : Value) (l : List Fp) (_ : l.length ≤ 9223372036854775807) (h64 : L64 l) (st : Int) (w : World) (h : LstF w v l) : Calls Try.prog 7 #[v, .int .i64 st] w fun e w' => e = .returned (.bool true) ∧ Below w.heap.size w w' := isc_law v l h64 st w h
theorem closure_fin (v : Value) (l : List Fp) (_ : l.length ≤ 9223372036854775807) (h64 : L64 l) (st : Int) (w : World) (h : LstF w v l) : Calls Try.prog 8 #[v, .int .i64 st] w fun e w' => e = .returned (.bool true) ∧ Below w.heap.size w w' := closure_law v l h64 st w h
theorem tri_fin (v : Value) (l : List Fp) (_ : l.length ≤ 9223372036854775807) (h64 : L64 l) (st : Int) (sf : Bool) (w : World) (h : LstF w v l) : Calls Try.prog 9 #[v, .int .i64 st, .bool sf] w fun e w' => e = .returned (.bool true) ∧ Below w.heap.size w w' := tri_law v l h64 st sf w h
theorem free_fin (v : Value) (l : List Fp) (_ : l.length ≤ 9223372036854775807) (h64 : L64 l) (st tt : Int) (w : World) (h : LstF w v l) : Calls Try.prog 10 #[v, .int .i64 st, .int .i64 tt] w fun e w' => e = .returned (.bool true) ∧ Below w.heap.size w w' := free_law v l h64 st tt w h
end Go.Proofs.Ytibakhobgfiklaa
