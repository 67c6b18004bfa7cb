/-
  Products, rides and fares in memory: the cells of each, each put into a box of its own. Condition: none beyond each theorem's own hypotheses.
-/
import Derived.Test.YtkpmmojfnhfflaaOpenG
import Derived.Test.YtkpmmojfnhfflaaRowS
import Derived.Test.YtkpmmojfnhfflaaFrm
import Derived.Test.YtkpmmojfnhfflaaMap
import Derived.Test.YtkpmmojfnhfflaaIVal
import Derived.Test.YtkpmmojfnhfflaaBRef
import Derived.Test.YtkpmmojfnhfflaaPdt
import Derived.Laws.Rows
namespace Go.Proofs.Ytkpmmojfnhfflaa
open Go.RowKit

/-- An int has 64 bits. -/
def Ix64 (x : Int) : Prop := -9223372036854775808 ≤ x ∧ x ≤ 9223372036854775807
/-- A product as cells. -/
def pdE (x : Pd) : List Value := [.string (str x.1), .int .i64 x.2.1, .int .i64 x.2.2.1, .int .i64 x.2.2.2.1, .int .i64 x.2.2.2.2.1, .int .i64 x.2.2.2.2.2]
theorem pdE_len (x : Pd) : (pdE x).length = 6 := rfl
abbrev LstPd := @LstG Pd pdE
/-- The six cells of a product. -/
theorem six_at {w : World} {A : Option Addr} {n c : Nat} {l : List Pd} (h : LstPd w (.slice A n c) l) {i : Nat} {id : List UInt8} {p r z t m : Int} (hs : l[i]? = some (id, p, r, z, t, m)) {s : ByteArray} (hst : str id = s) :
    ∃ b o, A = some ⟨b, o, none⟩ ∧ b < w.heap.size ∧ w.cell? ⟨b, o + i * 6, none⟩ = some (.string s) ∧ w.cell? ⟨b, o + i * 6 + 1, none⟩ = some (.int .i64 p) ∧ w.cell? ⟨b, o + i * 6 + 2, none⟩ = some (.int .i64 r) ∧ w.cell? ⟨b, o + i * 6 + 3, none⟩ = some (.int .i64 z) ∧ w.cell? ⟨b, o + i * 6 + 4, none⟩ = some (.int .i64 t) ∧ w.cell? ⟨b, o + i * 6 + 5, none⟩ = some (.int .i64 m) := by
  subst hst
  obtain ⟨A', c', hv, _, _, hx⟩ := h
  cases hv
  have hi := (List.getElem?_eq_some_iff.1 hs).1
  obtain ⟨b, o, rfl, hb, hcell⟩ := hx (by omega)
  exact ⟨b, o, rfl, hb, hcell (i * 6) _ (by rw [← Nat.add_zero (i * 6), fl_at pdE_len hs 0 (by omega)]; rfl), (hcell (i * 6 + 1) _ (by rw [fl_at pdE_len hs 1 (by omega)]; rfl) : _), (hcell (i * 6 + 2) _ (by rw [fl_at pdE_len hs 2 (by omega)]; rfl) : _), (hcell (i * 6 + 3) _ (by rw [fl_at pdE_len hs 3 (by omega)]; rfl) : _), (hcell (i * 6 + 4) _ (by rw [fl_at pdE_len hs 4 (by omega)]; rfl) : _), (hcell (i * 6 + 5) _ (by rw [fl_at pdE_len hs 5 (by omega)]; rfl) : _)⟩
/-- A product as a value, in a box. -/
abbrev pdV (s : ByteArray) (p r z t m : Int) : Value := .agg #[.string s, .int .i64 p, .int .i64 r, .int .i64 z, .int .i64 t, .int .i64 m]
abbrev boxP (s : ByteArray) (p r z t m : Int) : Obj := .cells #[.string s, .int .i64 p, .int .i64 r, .int .i64 z, .int .i64 t, .int .i64 m] 34 (0, 0)
theorem row_pd {w : World} {k : Nat} {s : ByteArray} {p r z t m : Int} (h : w.heap[k]? = some (boxP s p r z t m)) :
    w.cell? ⟨k, 0, none⟩ = some (.string s) ∧ w.cell? ⟨k, 1, none⟩ = some (.int .i64 p) ∧ w.cell? ⟨k, 2, none⟩ = some (.int .i64 r) ∧ w.cell? ⟨k, 3, none⟩ = some (.int .i64 z) ∧ w.cell? ⟨k, 4, none⟩ = some (.int .i64 t) ∧ w.cell? ⟨k, 5, none⟩ = some (.int .i64 m) :=
  ⟨by rw [cell_of_row _ _ 0 _ _ _ h]; rfl, by rw [cell_of_row _ _ 1 _ _ _ h]; rfl, by rw [cell_of_row _ _ 2 _ _ _ h]; rfl, by rw [cell_of_row _ _ 3 _ _ _ h]; rfl, by rw [cell_of_row _ _ 4 _ _ _ h]; rfl, by rw [cell_of_row _ _ 5 _ _ _ h]; rfl⟩
theorem box_pd {w w7 : World} {s : ByteArray} {p r z t m : Int} (h : w.alloc (boxP s p r z t m) = w7) :
    Below w.heap.size w w7 ∧ w7.cell? ⟨w.heap.size, 0, none⟩ = some (.string s) ∧ w7.cell? ⟨w.heap.size, 1, none⟩ = some (.int .i64 p) ∧ w7.cell? ⟨w.heap.size, 2, none⟩ = some (.int .i64 r) ∧ w7.cell? ⟨w.heap.size, 3, none⟩ = some (.int .i64 z) ∧ w7.cell? ⟨w.heap.size, 4, none⟩ = some (.int .i64 t) ∧ w7.cell? ⟨w.heap.size, 5, none⟩ = some (.int .i64 m) ∧ w.heap.size < w7.heap.size := by
  subst h
  have c7 := heap_alloc_new w (boxP s p r z t m)
  obtain ⟨h0, h1, h2, h3, h4, h5⟩ := row_pd c7
  exact ⟨(Below.refl _ _).alloc (Nat.le_refl _) _, h0, h1, h2, h3, h4, h5, by simp⟩
/-- A ride as cells. -/
def riE (x : Ri) : List Value := [.int .i64 x.1, .int .i64 x.2.1, .int .i64 x.2.2.1, .int .i64 x.2.2.2]
theorem riE_len (x : Ri) : (riE x).length = 4 := rfl
abbrev LstRi := @LstG Ri riE
/-- The four cells of a ride. -/
theorem four_at {w : World} {A : Option Addr} {n c : Nat} {l : List Ri} (h : LstRi w (.slice A n c) l) {i : Nat} {t a b v : Int} (hs : l[i]? = some (t, a, b, v)) :
    ∃ k f, A = some ⟨k, f, none⟩ ∧ k < w.heap.size ∧ w.cell? ⟨k, f + i * 4, none⟩ = some (.int .i64 t) ∧ w.cell? ⟨k, f + i * 4 + 1, none⟩ = some (.int .i64 a) ∧ w.cell? ⟨k, f + i * 4 + 2, none⟩ = some (.int .i64 b) ∧ w.cell? ⟨k, f + i * 4 + 3, none⟩ = some (.int .i64 v) := by
  obtain ⟨A', c', hv, _, _, hx⟩ := h
  cases hv
  have hi := (List.getElem?_eq_some_iff.1 hs).1
  obtain ⟨k, f, rfl, hb, hcell⟩ := hx (by omega)
  exact ⟨k, f, rfl, hb, hcell (i * 4) _ (by rw [← Nat.add_zero (i * 4), fl_at riE_len hs 0 (by omega)]; rfl), (hcell (i * 4 + 1) _ (by rw [fl_at riE_len hs 1 (by omega)]; rfl) : _), (hcell (i * 4 + 2) _ (by rw [fl_at riE_len hs 2 (by omega)]; rfl) : _), (hcell (i * 4 + 3) _ (by rw [fl_at riE_len hs 3 (by omega)]; rfl) : _)⟩
/-- A ride as a value, in a box. -/
abbrev riV (t a b v : Int) : Value := .agg #[.int .i64 t, .int .i64 a, .int .i64 b, .int .i64 v]
abbrev boxRi (t a b v : Int) : Obj := .cells #[.int .i64 t, .int .i64 a, .int .i64 b, .int .i64 v] 45 (0, 0)
theorem row_ri {w : World} {k : Nat} {t a b v : Int} (h : w.heap[k]? = some (boxRi t a b v)) :
    w.cell? ⟨k, 0, none⟩ = some (.int .i64 t) ∧ w.cell? ⟨k, 1, none⟩ = some (.int .i64 a) ∧ w.cell? ⟨k, 2, none⟩ = some (.int .i64 b) ∧ w.cell? ⟨k, 3, none⟩ = some (.int .i64 v) :=
  ⟨by rw [cell_of_row _ _ 0 _ _ _ h]; rfl, by rw [cell_of_row _ _ 1 _ _ _ h]; rfl, by rw [cell_of_row _ _ 2 _ _ _ h]; rfl, by rw [cell_of_row _ _ 3 _ _ _ h]; rfl⟩
theorem box_ri {w w7 : World} {t a b v : Int} (h : w.alloc (boxRi t a b v) = w7) :
    Below w.heap.size w w7 ∧ w7.cell? ⟨w.heap.size, 0, none⟩ = some (.int .i64 t) ∧ w7.cell? ⟨w.heap.size, 1, none⟩ = some (.int .i64 a) ∧ w7.cell? ⟨w.heap.size, 2, none⟩ = some (.int .i64 b) ∧ w7.cell? ⟨w.heap.size, 3, none⟩ = some (.int .i64 v) ∧ w.heap.size < w7.heap.size := by
  subst h
  have c7 := heap_alloc_new w (boxRi t a b v)
  obtain ⟨h0, h1, h2, h3⟩ := row_ri c7
  exact ⟨(Below.refl _ _).alloc (Nat.le_refl _) _, h0, h1, h2, h3, by simp⟩
/-- Fares as a value (their products, the discount, the seconds within, the cap), in a box. -/
abbrev faV (v : Value) (d wi c : Int) : Value := .agg #[v, .int .i64 d, .int .i64 wi, .int .i64 c]
abbrev boxFa (v : Value) (d wi c : Int) : Obj := .cells #[v, .int .i64 d, .int .i64 wi, .int .i64 c] 24 (0, 0)
theorem row_fa {w : World} {k : Nat} {v : Value} {d wi c : Int} (h : w.heap[k]? = some (boxFa v d wi c)) :
    w.cell? ⟨k, 0, none⟩ = some v ∧ w.cell? ⟨k, 1, none⟩ = some (.int .i64 d) ∧ w.cell? ⟨k, 2, none⟩ = some (.int .i64 wi) ∧ w.cell? ⟨k, 3, none⟩ = some (.int .i64 c) :=
  ⟨by rw [cell_of_row _ _ 0 _ _ _ h]; rfl, by rw [cell_of_row _ _ 1 _ _ _ h]; rfl, by rw [cell_of_row _ _ 2 _ _ _ h]; rfl, by rw [cell_of_row _ _ 3 _ _ _ h]; rfl⟩
theorem box_fa {w w7 : World} {v : Value} {d wi c : Int} (h : w.alloc (boxFa v d wi c) = w7) :
    Below w.heap.size w w7 ∧ w7.cell? ⟨w.heap.size, 0, none⟩ = some v ∧ w7.cell? ⟨w.heap.size, 1, none⟩ = some (.int .i64 d) ∧ w7.cell? ⟨w.heap.size, 2, none⟩ = some (.int .i64 wi) ∧ w7.cell? ⟨w.heap.size, 3, none⟩ = some (.int .i64 c) ∧ w.heap.size < w7.heap.size ∧ w7.heap[w.heap.size]? = some (boxFa v d wi c) := by
  subst h
  have c7 := heap_alloc_new w (boxFa v d wi c)
  obtain ⟨h0, h1, h2, h3⟩ := row_fa c7
  exact ⟨(Below.refl _ _).alloc (Nat.le_refl _) _, h0, h1, h2, h3, by simp, c7⟩
theorem ret_chk {a b c d : Int} (h : a = b) (k : c = d) : Ending.returned (.tuple #[.int .i64 a, .int .i64 c]) = .returned (.tuple #[.int .i64 b, .int .i64 d]) := by rw [h, k]
theorem ret_fnd {a b : Int} {c d : Bool} (h : a = b) (k : c = d) : Ending.returned (.tuple #[.int .i64 a, .bool c]) = .returned (.tuple #[.int .i64 b, .bool d]) := by rw [h, k]
theorem ret_uw {a b : Nat} (h : a = b) : Ending.returned (.int .u64 (a : Int)) = .returned (.int .u64 (b : Int)) := by rw [h]
theorem str_ne {id : List UInt8} {x : List UInt8} {s t : ByteArray} (hs : str x = s) (ht : str id = t) (h : x ≠ id) : s ≠ t := by
  intro e
  apply h
  have e2 : str x = str id := by rw [hs, ht, e]
  have := congrArg (fun b : ByteArray => b.data.toList) e2
  simpa [str] using this
theorem wrap_word (n : Int) : IntKind.u64.wrap n = ((wordR n : Nat) : Int) := by rw [IntKind.wrap_u64, word_cast]
theorem enter_of {P : Program} {K : FuncId} {fn : Func} (hf : P.funcs[K]? = some fn) (hn : (fn.name == "runtime.NumGoroutine") = false) (hb : fn.body.isNone = false) : ∀ args W, (callFunc K args).run P W = .ok (.enter K args) W := by
  intro args W
  unfold callFunc
  simp at hn
  simp [hf, hn]
  intro h0
  rw [h0] at hb
  cases hb
end Go.Proofs.Ytkpmmojfnhfflaa
