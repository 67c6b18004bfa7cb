/-
  Trips among the arguments of this package's laws: a slice of them, one by value; the table that numerals are made with, out of what the rows lay. Condition: none beyond each theorem's own hypotheses.
-/
import Derived.Test.YtfbobfejnbhjbaaDoorTrLaw
import Derived.Test.YtfbobfejnbhjbaaDoorTrLaw2
import Derived.Test.YtfbobfejnbhjbaaDoorTrLaw3
import Derived.Test.YtfbobfejnbhjbaaDoorTrLaw4
import Derived.Test.YtfbobfejnbhjbaaDoorTrLaw5
import Derived.Test.YtfbobfejnbhjbaaDoorOpenS
import Derived.Test.YtfbobfejnbhjbaaDoorRows
import Derived.ProofKit
import Derived.Lib.LaidTab
import Derived.Stop.LaidErr
namespace Go.Proofs.YtfbobfejnbhjbaaDoor
open Go.RowKit Go.ChangeShapes Go.WideShapes Go.Deep

theorem trod_callS {H : Type} {enc : TypeId × Value → H} {W : World} {n : Nat} {cs : List Value} {x : DataW H × List MemPlace} (h : DataW.trod enc Tryd.prog W 0 (fun _ => true) true n 44 cs = some x) : ∃ a : Cl, (-9223372036854775808 ≤ a.1 ∧ a.1 ≤ 9223372036854775807) ∧ cs = cc a := by
  obtain ⟨y0, y1, y2, y3, y4, n, hl, h0, h1, h2, h3, h4⟩ := trod_struct5 Tryd.underlying44 h
  rw [show Tryd.prog.cellsOf 44 = 5 by kernel_rfl] at hl
  match cs, hl with
  | [c0, c1, c2, c3, c4], _ =>
    simp only [show Tryd.prog.cellsOf 3 = 1 by kernel_rfl, show Tryd.prog.cellsOf 4 = 1 by kernel_rfl] at h0 h1 h2 h3 h4
    obtain ⟨s, e0, _, w0⟩ := DataW.trod_int Tryd.underlying3 h0
    obtain ⟨a, e1, -⟩ := DataW.trod_int Tryd.underlying3 h1
    obtain ⟨d, e2, -⟩ := DataW.trod_int Tryd.underlying3 h2
    obtain ⟨o, e3, -⟩ := DataW.trod_bool Tryd.underlying4 h3
    obtain ⟨u, e4, -⟩ := DataW.trod_bool Tryd.underlying4 h4
    simp at e0 e1 e2 e3 e4
    subst e0 e1 e2 e3 e4
    exact ⟨(s, a, d, o, u), ⟨int_low w0, int_top w0⟩, rfl⟩
instance : Inhabited Cl := ⟨(0, 0, 0, false, false)⟩
instance : Inhabited Tp := ⟨([], 0, 0, false, .slice none 0 0, [])⟩
theorem trod_calls {H : Type} {enc : TypeId × Value → H} {W : World} {n : Nat} {cs : List Value} {x : DataW H × List MemPlace} (h : DataW.trod enc Tryd.prog W 0 (fun _ => true) true n 37 cs = some x) : ∃ v l, cs = [v] ∧ LstC W v l ∧ l.length ≤ 9223372036854775807 ∧ OkS l := by
  obtain ⟨v, l, e0, a1, a2, a3⟩ := trod_listG (by decide) cc_len Tryd.underlying37 (by kernel_rfl) (fun _ _ _ h => by obtain ⟨a, h1, rfl⟩ := trod_callS h; exact ⟨a, h1, rfl⟩) h
  exact ⟨v, l, e0, a1, a2, a3⟩
theorem trod_trip {H : Type} {enc : TypeId × Value → H} {W : World} {n : Nat} {cs : List Value} {x : DataW H × List MemPlace} (h : DataW.trod enc Tryd.prog W 0 (fun _ => true) true n 39 cs = some x) : ∃ a : Tp, OkT W a ∧ cs = te a := by
  obtain ⟨y0, y1, y2, y3, y4, n, hl, h0, h1, h2, h3, h4⟩ := trod_struct5 Tryd.underlying39 h
  rw [show Tryd.prog.cellsOf 39 = 5 by kernel_rfl] at hl
  match cs, hl with
  | [c0, c1, c2, c3, c4], _ =>
    simp only [show Tryd.prog.cellsOf 9 = 1 by kernel_rfl, show Tryd.prog.cellsOf 3 = 1 by kernel_rfl, show Tryd.prog.cellsOf 4 = 1 by kernel_rfl, show Tryd.prog.cellsOf 37 = 1 by kernel_rfl] at h0 h1 h2 h3 h4
    obtain ⟨s, e0, -⟩ := DataW.trod_string Tryd.underlying9 h0
    obtain ⟨r, e1, -⟩ := DataW.trod_int Tryd.underlying3 h1
    obtain ⟨k, e2, -⟩ := DataW.trod_int Tryd.underlying3 h2
    obtain ⟨f, e3, -⟩ := DataW.trod_bool Tryd.underlying4 h3
    obtain ⟨v, l, e4, a1, a2, a3⟩ := trod_calls h4
    simp at e0 e1 e2 e3 e4
    subst e0 e1 e2 e3 e4
    refine ⟨(s.data.toList, r, k, f, c4, l), ⟨a1, a2, a3⟩, ?_⟩
    unfold te
    rw [str_list]
section
variable {H : Type} {enc : TypeId × Value → H} {W : World} {base : Nat} {v : Value} {d : DataW H} {ps : List MemPlace}
theorem open_list_Trip (hval : Value.okWide Tryd.prog W .any base 22 v)
    (h : DataW.Trod enc Tryd.prog W 0 (fun _ => true) true 22 v d ps) : ∃ l : List Tp, LstTp W v l ∧ l.length ≤ 9223372036854775807 ∧ (∀ x ∈ ps, x.block < W.heap.size) ∧ OkTs l := by
  obtain ⟨l, h1, h2, h3, h4⟩ := open_listG (ok := OkT W) (by decide) te_len Tryd.underlying22 (by kernel_rfl) (fun _ _ _ h => trod_trip h) hval h
  exact ⟨l, ⟨h1, h4⟩, h2, h3, trivial⟩
/-- A trip by value. -/
theorem open_Trip (hval : Value.okWide Tryd.prog W .any base 39 v) (h : DataW.Trod enc Tryd.prog W 0 (fun _ => true) true 39 v d ps) :
    ∃ (s : ByteArray) (r c : Int) (f : Bool) (cv : Value) (l : List Cl), v = .agg #[.string s, .int .i64 r, .int .i64 c, .bool f, cv] ∧ (∀ x ∈ ps, x.block < W.heap.size) ∧ LstC W cv l ∧ l.length ≤ 9223372036854775807 ∧ OkS l := by
  have hlt := (trodAll_mk1 h).lt
  obtain ⟨v0, v1, v2, v3, v4, y0, y1, y2, y3, y4, n, rfl, h0, h1, h2, h3, h4⟩ := open_agg5 Tryd.underlying39 (by kernel_rfl) (by kernel_rfl) hval h
  obtain ⟨s, e0, -⟩ := DataW.trod_string Tryd.underlying9 h0
  obtain ⟨r, e1, -⟩ := DataW.trod_int Tryd.underlying3 h1
  obtain ⟨k, e2, -⟩ := DataW.trod_int Tryd.underlying3 h2
  obtain ⟨f, e3, -⟩ := DataW.trod_bool Tryd.underlying4 h3
  obtain ⟨cv, l, e4, a1, a2, a3⟩ := trod_calls h4
  simp at e0 e1 e2 e3 e4
  subst e0 e1 e2 e3 e4
  exact ⟨s, r, k, f, _, l, rfl, hlt, a1, a2, a3⟩
end
theorem good_of_laid {W : World} (h : laidMet Tryd.prog [("math/bits.deBruijn32tab", Rows.laid_math_bits_deBruijn32tab), ("math/bits.deBruijn64tab", Rows.laid_math_bits_deBruijn64tab), ("internal/strconv.uint64pow10", Rows.laid_internal_strconv_uint64pow10)] W) : GoodP W :=
  Lib.tabIs_of_head (k := .u64) (zs := Lib.pow10Tab) (rest := []) (t := 79) (e := 72) (n := 20) gPow (by kernel_rfl) (by kernel_rfl) (by kernel_rfl) (by kernel_rfl) (by kernel_rfl) h.tail.tail
end Go.Proofs.YtfbobfejnbhjbaaDoor
