/-
  A slice of calls in memory: the cells of a call, a call put into a box of its own; '!=' of two calls. Condition: none beyond each theorem's own hypotheses. Slices of trips in memory: the cells of a trip, a trip put into a box of its own, what the world says of each trip's calls. Condition: none beyond each theorem's own hypotheses. Trips among the arguments of a package's laws: a slice of them, one by value. Condition: none beyond each theorem's own hypotheses.
-/
import Derived.Test.YtkhalnjgbdpfhaaGreatShA
import Derived.Test.YtkhalnjgbdpfhaaGreatShP
import Derived.Lib.QuietBelow
import Derived.Test.YtkhalnjgbdpfhaaGreatRows
import Derived.ProofKit
import Derived.Lib.SmallJoins
namespace Go.Proofs.YtkhalnjgbdpfhaaGreat
open Go.RowKit

/-- A call as cells. -/
def cc (x : Cl) : List Value := [.int .i64 x.1, .int .i64 x.2.1, .int .i64 x.2.2.1, .bool x.2.2.2.1, .bool x.2.2.2.2]
theorem cc_len (x : Cl) : (cc x).length = 5 := rfl
theorem cc_one (x : Cl) : ∀ u ∈ cc x, u.oneCell' = true := by
  intro u hu
  simp [cc] at hu
  rcases hu with rfl | rfl | rfl | rfl | rfl <;> rfl
abbrev LstC := @LstG Cl cc
abbrev OwnC := @OwnG Cl cc 74 5
theorem info_cc : (Tryz.prog.info? 74).map (fun i => (i.zero, i.size, i.bytes)) = some (some (.agg #[.int .i64 0, .int .i64 0, .int .i64 0, .bool false, .bool false]), 5, 32) := by kernel_rfl
/-- The five cells of a call. -/
theorem five_at {w : World} {A : Option Addr} {n c : Nat} {l : List Cl} (h : LstC w (.slice A n c) l) {i : Nat} {s a d : Int} {o e : Bool} (hs : l[i]? = some (s, a, d, o, e)) :
    ∃ b f, A = some ⟨b, f, none⟩ ∧ b < w.heap.size ∧ w.cell? ⟨b, f + i * 5, none⟩ = some (.int .i64 s) ∧ w.cell? ⟨b, f + i * 5 + 1, none⟩ = some (.int .i64 a) ∧ w.cell? ⟨b, f + i * 5 + 2, none⟩ = some (.int .i64 d) ∧ w.cell? ⟨b, f + i * 5 + 3, none⟩ = some (.bool o) ∧ w.cell? ⟨b, f + i * 5 + 4, none⟩ = some (.bool e) := by
  obtain ⟨A', c', hv, _, _, hx⟩ := h
  cases hv
  have hi := (List.getElem?_eq_some_iff.1 hs).1
  obtain ⟨b, f, rfl, hb, hcell⟩ := hx (by omega)
  exact ⟨b, f, rfl, hb, hcell (i * 5) _ (by rw [← Nat.add_zero (i * 5), fl_at cc_len hs 0 (by omega)]; rfl), (hcell (i * 5 + 1) _ (by rw [fl_at cc_len hs 1 (by omega)]; rfl) : _), (hcell (i * 5 + 2) _ (by rw [fl_at cc_len hs 2 (by omega)]; rfl) : _), (hcell (i * 5 + 3) _ (by rw [fl_at cc_len hs 3 (by omega)]; rfl) : _), (hcell (i * 5 + 4) _ (by rw [fl_at cc_len hs 4 (by omega)]; rfl) : _)⟩
/-- A call in a box. -/
abbrev boxC (s a d : Int) (o e : Bool) : Obj := .cells #[.int .i64 s, .int .i64 a, .int .i64 d, .bool o, .bool e] 74 (0, 0)
theorem box_cc {w w7 : World} {s a d : Int} {o e : Bool} (h : w.alloc (boxC s a d o e) = w7) :
    Below w.heap.size w w7 ∧ w7.cell? ⟨w.heap.size, 0, none⟩ = some (.int .i64 s) ∧ w7.cell? ⟨w.heap.size, 1, none⟩ = some (.int .i64 a) ∧ w7.cell? ⟨w.heap.size, 2, none⟩ = some (.int .i64 d) ∧ w7.cell? ⟨w.heap.size, 3, none⟩ = some (.bool o) ∧ w7.cell? ⟨w.heap.size, 4, none⟩ = some (.bool e) ∧ w.heap.size < w7.heap.size := by
  subst h
  have c7 := heap_alloc_new w (boxC s a d o e)
  exact ⟨(Below.refl _ _).alloc (Nat.le_refl _) _, by rw [cell_of_row _ _ 0 _ _ _ c7]; rfl, by rw [cell_of_row _ _ 1 _ _ _ c7]; rfl, by rw [cell_of_row _ _ 2 _ _ _ c7]; rfl, by rw [cell_of_row _ _ 3 _ _ _ c7]; rfl, by rw [cell_of_row _ _ 4 _ _ _ c7]; rfl, by simp⟩
theorem ret_chk {a b c d : Int} (h : a = b) (k : c = d) : Ending.returned (.tuple #[.int .i64 a, .int .i64 c]) = .returned (.tuple #[.int .i64 b, .int .i64 d]) := by rw [h, k]
/-- '!=' of two calls. -/
theorem neq_cc (s a d : Int) (o e : Bool) (s' a' d' : Int) (o' e' : Bool) (q : Bool) (h : (!decide ((s, a, d, o, e) = (s', a', d', o', e'))) = q) (W : World) : (binOp BinOp.neq 74 (.agg #[.int .i64 s, .int .i64 a, .int .i64 d, .bool o, .bool e]) (.agg #[.int .i64 s', .int .i64 a', .int .i64 d', .bool o', .bool e'])).run Tryz.prog W = .ok (.bool q) W := by
  subst h
  by_cases h1 : s = s'
  · by_cases h2 : a = a'
    · by_cases h3 : d = d'
      · subst h1 h2 h3
        cases o <;> cases o' <;> cases e <;> cases e' <;> go_simp
      · subst h1 h2
        have : (d == d') = false := beq_false h3
        go_simp
    · subst h1
      have : (a == a') = false := beq_false h2
      go_simp
  · have : (s == s') = false := beq_false h1
    go_simp
/-! ### Pairs of indices: rows of arrays of two ints -/
/-- A pair as cells. -/
def pe (p : Pr) : List Value := [.int .i64 (p.1 : Int), .int .i64 (p.2 : Int)]
theorem pe_len (p : Pr) : (pe p).length = 2 := rfl
theorem pe_one (p : Pr) : ∀ u ∈ pe p, u.oneCell' = true := by
  intro u hu
  simp [pe] at hu
  rcases hu with rfl | rfl <;> rfl
abbrev LstP := @LstG Pr pe
/-- The two cells of a pair. -/
theorem two_at {w : World} {A : Option Addr} {n c : Nat} {l : List Pr} (h : LstP w (.slice A n c) l) {i x y : Nat} (hs : l[i]? = some (x, y)) :
    ∃ b f, A = some ⟨b, f, none⟩ ∧ b < w.heap.size ∧ w.cell? ⟨b, f + i * 2, none⟩ = some (.int .i64 (x : Int)) ∧ w.cell? ⟨b, f + i * 2 + 1, none⟩ = some (.int .i64 (y : Int)) := by
  obtain ⟨A', c', hv, _, _, hx⟩ := h
  cases hv
  have hi := (List.getElem?_eq_some_iff.1 hs).1
  obtain ⟨b, f, rfl, hb, hcell⟩ := hx (by omega)
  exact ⟨b, f, rfl, hb, hcell (i * 2) _ (by rw [← Nat.add_zero (i * 2), fl_at pe_len hs 0 (by omega)]; rfl), (hcell (i * 2 + 1) _ (by rw [fl_at pe_len hs 1 (by omega)]; rfl) : _)⟩
theorem run_eqIn_two {T : TypeId} (hT : Tryz.prog.underlying T = some (.array 2 3)) (a b a' b' : Int) (W : World) (m : Nat) :
    (Op.equalIn (m + 1 + 1) T (.agg #[.int .i64 a, .int .i64 b]) (.agg #[.int .i64 a', .int .i64 b'])).run Tryz.prog W = .ok (decide (a = a' ∧ b = b')) W := by
  have u3 := Tryz.underlying3
  have a3 := Tryz.isAgg3
  have z3 := Tryz.sizeOf3
  have r4 : List.range' 0 2 = [0, 1] := rfl
  have P : ∀ (p q : Int) (W : World), (part 3 #[.int .i64 p, .int .i64 q] (0 * 1)).run Tryz.prog W = .ok (.int .i64 p) W ∧ (part 3 #[.int .i64 p, .int .i64 q] (1 * 1)).run Tryz.prog W = .ok (.int .i64 q) W := by
    intro p q W
    simp [part, a3]
  have E : ∀ (x y : Int) (W : World), (Op.equalIn (m + 1) 3 (.int .i64 x) (.int .i64 y)).run Tryz.prog W = .ok (x == y) W := fun x y W => run_equalIn_int W m _ _ _ x y u3
  rw [Op.equalIn]
  simp only [Sem.run_bind, run_underlying hT, Result.andThen_ok, z3]
  by_cases h1 : a = a'
  · by_cases h2 : b = b' <;> simp [r4, (P _ _ _).1, (P _ _ _).2, E, h1, h2]
  · simp [r4, P, E, h1]
end Go.Proofs.YtkhalnjgbdpfhaaGreat
namespace Go.Proofs.YtkhalnjgbdpfhaaGreat
open Go.RowKit

/-- A trip: its identifier, route, calendar, whether it is step-free, its slice of calls and the calls. -/
abbrev Tp := List UInt8 × Int × Int × Bool × Value × List Cl
/-- A trip as cells. -/
def te (x : Tp) : List Value := [.string (str x.1), .int .i64 x.2.1, .int .i64 x.2.2.1, .bool x.2.2.2.1, x.2.2.2.2.1]
/-- The calls of a trip. -/
def clT (x : Tp) : List Cl := x.2.2.2.2.2
theorem te_len (x : Tp) : (te x).length = 5 := rfl
abbrev LstT := @LstG Tp te
/-- What the world says of a trip's calls. -/
def OkT (W : World) (x : Tp) : Prop := LstC W x.2.2.2.2.1 x.2.2.2.2.2 ∧ x.2.2.2.2.2.length ≤ 9223372036854775807 ∧ OkS x.2.2.2.2.2
theorem OkT.below {w w' : World} {x : Tp} (h : OkT w x) (b : Below w.heap.size w w') : OkT w' x := ⟨h.1.below b, h.2⟩
/-- A slice of trips, each of which can be what it is in the world. -/
def LstTp (w : World) (v : Value) (l : List Tp) : Prop := LstT w v l ∧ ∀ x ∈ l, OkT w x
theorem LstTp.below {w w' : World} {v : Value} {l : List Tp} (h : LstTp w v l) (b : Below w.heap.size w w') : LstTp w' v l := ⟨h.1.below b, fun x hx => (h.2 x hx).below b⟩
/-- The five cells of a trip and its calls. -/
theorem trip_at {w : World} {A : Option Addr} {n c : Nat} {l : List Tp} (h : LstTp w (.slice A n c) l) {i : Nat} {id : List UInt8} {r k : Int} {f : Bool} {v : Value} {cl : List Cl} (hs : l[i]? = some (id, r, k, f, v, cl)) {s : ByteArray} (hst : str id = s) :
    ∃ b o B m, A = some ⟨b, o, none⟩ ∧ v = .slice B cl.length m ∧ b < w.heap.size ∧ w.cell? ⟨b, o + i * 5, none⟩ = some (.string s) ∧ w.cell? ⟨b, o + i * 5 + 1, none⟩ = some (.int .i64 r) ∧ w.cell? ⟨b, o + i * 5 + 2, none⟩ = some (.int .i64 k) ∧ w.cell? ⟨b, o + i * 5 + 3, none⟩ = some (.bool f) ∧ w.cell? ⟨b, o + i * 5 + 4, none⟩ = some (.slice B cl.length m) ∧
      LstC w (.slice B cl.length m) cl ∧ cl.length ≤ 9223372036854775807 ∧ OkS cl := by
  subst hst
  obtain ⟨ht, hok⟩ := h
  obtain ⟨h1, h2, h3⟩ := hok _ (List.mem_iff_getElem?.2 ⟨i, hs⟩)
  simp only at h1 h2 h3
  obtain ⟨B, m, rfl, -, -, -⟩ := _root_.id h1
  obtain ⟨A', c', hv, _, _, hx⟩ := ht
  cases hv
  have hi := (List.getElem?_eq_some_iff.1 hs).1
  obtain ⟨b, o, rfl, hb, hcell⟩ := hx (by omega)
  exact ⟨b, o, B, m, rfl, rfl, hb, hcell (i * 5) _ (by rw [← Nat.add_zero (i * 5), fl_at te_len hs 0 (by omega)]; rfl), (hcell (i * 5 + 1) _ (by rw [fl_at te_len hs 1 (by omega)]; rfl) : _), (hcell (i * 5 + 2) _ (by rw [fl_at te_len hs 2 (by omega)]; rfl) : _), (hcell (i * 5 + 3) _ (by rw [fl_at te_len hs 3 (by omega)]; rfl) : _), (hcell (i * 5 + 4) _ (by rw [fl_at te_len hs 4 (by omega)]; rfl) : _), h1, h2, h3⟩
/-- A trip in a box. -/
abbrev boxT (s : ByteArray) (r k : Int) (f : Bool) (v : Value) : Obj := .cells #[.string s, .int .i64 r, .int .i64 k, .bool f, v] 49 (0, 0)
theorem box_tp {w w7 : World} {s : ByteArray} {r k : Int} {f : Bool} {v : Value} (h : w.alloc (boxT s r k f v) = w7) :
    Below w.heap.size w w7 ∧ w7.cell? ⟨w.heap.size, 0, none⟩ = some (.string s) ∧ w7.cell? ⟨w.heap.size, 1, none⟩ = some (.int .i64 r) ∧ w7.cell? ⟨w.heap.size, 2, none⟩ = some (.int .i64 k) ∧ w7.cell? ⟨w.heap.size, 3, none⟩ = some (.bool f) ∧ w7.cell? ⟨w.heap.size, 4, none⟩ = some v ∧ w.heap.size < w7.heap.size := by
  subst h
  have c7 := heap_alloc_new w (boxT s r k f v)
  exact ⟨(Below.refl _ _).alloc (Nat.le_refl _) _, by rw [cell_of_row _ _ 0 _ _ _ c7]; rfl, by rw [cell_of_row _ _ 1 _ _ _ c7]; rfl, by rw [cell_of_row _ _ 2 _ _ _ c7]; rfl, by rw [cell_of_row _ _ 3 _ _ _ c7]; rfl, by rw [cell_of_row _ _ 4 _ _ _ c7]; rfl, by simp⟩
theorem row_tp {w : World} {b : Nat} {s : ByteArray} {r k : Int} {f : Bool} {v : Value} (h : w.heap[b]? = some (boxT s r k f v)) :
    w.cell? ⟨b, 0, none⟩ = some (.string s) ∧ w.cell? ⟨b, 1, none⟩ = some (.int .i64 r) ∧ w.cell? ⟨b, 2, none⟩ = some (.int .i64 k) ∧ w.cell? ⟨b, 3, none⟩ = some (.bool f) ∧ w.cell? ⟨b, 4, none⟩ = some v :=
  ⟨by rw [cell_of_row _ _ 0 _ _ _ h]; rfl, by rw [cell_of_row _ _ 1 _ _ _ h]; rfl, by rw [cell_of_row _ _ 2 _ _ _ h]; rfl, by rw [cell_of_row _ _ 3 _ _ _ h]; rfl, by rw [cell_of_row _ _ 4 _ _ _ h]; rfl⟩
theorem row_cc {w : World} {b : Nat} {s a d : Int} {o u : Bool} (h : w.heap[b]? = some (boxC s a d o u)) :
    w.cell? ⟨b, 0, none⟩ = some (.int .i64 s) ∧ w.cell? ⟨b, 1, none⟩ = some (.int .i64 a) ∧ w.cell? ⟨b, 2, none⟩ = some (.int .i64 d) ∧ w.cell? ⟨b, 3, none⟩ = some (.bool o) ∧ w.cell? ⟨b, 4, none⟩ = some (.bool u) :=
  ⟨by rw [cell_of_row _ _ 0 _ _ _ h]; rfl, by rw [cell_of_row _ _ 1 _ _ _ h]; rfl, by rw [cell_of_row _ _ 2 _ _ _ h]; rfl, by rw [cell_of_row _ _ 3 _ _ _ h]; rfl, by rw [cell_of_row _ _ 4 _ _ _ h]; rfl⟩
/-- A cell stored that is so already. -/
theorem set_same {w : World} {b i : Nat} {v : Value} {cs : Array Value} {T : TypeId} {fr : Nat × Nat} (h : w.heap[b]? = some (.cells cs T fr)) (hc : cs.setIfInBounds i v = cs) : w.setCell ⟨b, i, none⟩ v = w := by
  unfold World.setCell
  cases w with
  | mk hp tape drawn os out =>
    simp only at h ⊢
    congr 1
    refine Array.ext_getElem? fun j => ?_
    rw [Array.getElem?_modify]
    split
    · next e =>
      subst e
      rw [h]
      simp [hc]
    · rfl
theorem box_last {w w7 : World} {s a d : Int} {o : Bool} (h : w.alloc (boxC s a d o false) = w7) : w7.frozen? ⟨w.heap.size, 4, none⟩ = false ∧ w7.setCell ⟨w.heap.size, 4, none⟩ (.bool false) = w7 := by
  subst h
  exact ⟨frozen_of_row _ _ 4 _ _ (heap_alloc_new _ _), set_same (heap_alloc_new _ _) rfl⟩
/-- Two boxes, one behind the other. -/
theorem box_both (w : World) (x y : Obj) : ∃ W : World, (w.alloc x).alloc y = W ∧ W.heap.size = w.heap.size + 2 ∧ W.heap[w.heap.size]? = some x ∧ W.heap[w.heap.size + 1]? = some y ∧ Below w.heap.size w W := by
  refine ⟨_, rfl, by simp, (Go.heap_alloc_old _ _ (show w.heap.size < _ by simp)).trans (heap_alloc_new w _), ?_, ((Below.refl _ _).alloc (Nat.le_refl _) _).alloc (by simp) _⟩
  have hh := heap_alloc_new (w.alloc x) y
  rw [show (w.alloc x).heap.size = w.heap.size + 1 by simp] at hh
  exact hh
end Go.Proofs.YtkhalnjgbdpfhaaGreat
namespace Go.Proofs.YtkhalnjgbdpfhaaGreat
open Go.RowKit Go.ChangeShapes Go.WideShapes Go.Deep
set_option maxRecDepth 100000

/-- What is asked of the trips among the arguments beside what the world says of them: nothing. -/
def OkTs (_ : List Tp) : Prop := True
theorem trod_callS {H : Type} {enc : TypeId × Value → H} {W : World} {n : Nat} {cs : List Value} {x : DataW H × List MemPlace} (h : DataW.trod enc Tryz.prog W 0 (fun _ => true) true n 74 cs = some x) : ∃ a : Cl, ((-9223372036854775808 ≤ a.1 ∧ a.1 ≤ 9223372036854775807) ∧ (-9223372036854775808 ≤ a.2.1 ∧ a.2.1 ≤ 9223372036854775807) ∧ -9223372036854775808 ≤ a.2.2.1 ∧ a.2.2.1 ≤ 9223372036854775807) ∧ cs = cc a := by
  obtain ⟨y0, y1, y2, y3, y4, n, hl, h0, h1, h2, h3, h4⟩ := trod_struct5 Tryz.underlying74 h
  rw [show Tryz.prog.cellsOf 74 = 5 by kernel_rfl] at hl
  match cs, hl with
  | [c0, c1, c2, c3, c4], _ =>
    simp only [show Tryz.prog.cellsOf 3 = 1 by kernel_rfl, show Tryz.prog.cellsOf 4 = 1 by kernel_rfl] at h0 h1 h2 h3 h4
    obtain ⟨s, e0, _, w0⟩ := DataW.trod_int Tryz.underlying3 h0
    obtain ⟨a, e1, _, w1⟩ := DataW.trod_int Tryz.underlying3 h1
    obtain ⟨d, e2, _, w2⟩ := DataW.trod_int Tryz.underlying3 h2
    obtain ⟨o, e3, -⟩ := DataW.trod_bool Tryz.underlying4 h3
    obtain ⟨u, e4, -⟩ := DataW.trod_bool Tryz.underlying4 h4
    simp at e0 e1 e2 e3 e4
    subst e0 e1 e2 e3 e4
    exact ⟨(s, a, d, o, u), ⟨⟨int_low w0, int_top w0⟩, ⟨int_low w1, int_top w1⟩, int_low w2, int_top w2⟩, rfl⟩
instance : Inhabited Cl := ⟨(0, 0, 0, false, false)⟩
instance : Inhabited Tp := ⟨([], 0, 0, false, .slice none 0 0, [])⟩
theorem trod_calls {H : Type} {enc : TypeId × Value → H} {W : World} {n : Nat} {cs : List Value} {x : DataW H × List MemPlace} (h : DataW.trod enc Tryz.prog W 0 (fun _ => true) true n 47 cs = some x) : ∃ v l, cs = [v] ∧ LstC W v l ∧ l.length ≤ 9223372036854775807 ∧ OkS l := by
  obtain ⟨v, l, e0, a1, a2, a3⟩ := trod_listG (by decide) cc_len Tryz.underlying47 (by kernel_rfl) (fun _ _ _ h => by obtain ⟨a, h1, rfl⟩ := trod_callS h; exact ⟨a, h1, rfl⟩) h
  exact ⟨v, l, e0, a1, a2, a3⟩
theorem trod_trip {H : Type} {enc : TypeId × Value → H} {W : World} {n : Nat} {cs : List Value} {x : DataW H × List MemPlace} (h : DataW.trod enc Tryz.prog W 0 (fun _ => true) true n 49 cs = some x) : ∃ a : Tp, OkT W a ∧ cs = te a := by
  obtain ⟨y0, y1, y2, y3, y4, n, hl, h0, h1, h2, h3, h4⟩ := trod_struct5 Tryz.underlying49 h
  rw [show Tryz.prog.cellsOf 49 = 5 by kernel_rfl] at hl
  match cs, hl with
  | [c0, c1, c2, c3, c4], _ =>
    simp only [show Tryz.prog.cellsOf 9 = 1 by kernel_rfl, show Tryz.prog.cellsOf 3 = 1 by kernel_rfl, show Tryz.prog.cellsOf 4 = 1 by kernel_rfl, show Tryz.prog.cellsOf 47 = 1 by kernel_rfl] at h0 h1 h2 h3 h4
    obtain ⟨s, e0, -⟩ := DataW.trod_string Tryz.underlying9 h0
    obtain ⟨r, e1, -⟩ := DataW.trod_int Tryz.underlying3 h1
    obtain ⟨k, e2, -⟩ := DataW.trod_int Tryz.underlying3 h2
    obtain ⟨f, e3, -⟩ := DataW.trod_bool Tryz.underlying4 h3
    obtain ⟨v, l, e4, a1, a2, a3⟩ := trod_calls h4
    simp at e0 e1 e2 e3 e4
    subst e0 e1 e2 e3 e4
    refine ⟨(s.data.toList, r, k, f, c4, l), ⟨a1, a2, a3⟩, ?_⟩
    unfold te
    rw [str_list]
section
variable {H : Type} {enc : TypeId × Value → H} {W : World} {base : Nat} {v : Value} {d : DataW H} {ps : List MemPlace}
theorem open_list_Trip (hval : Value.okWide Tryz.prog W .any base 26 v)
    (h : DataW.Trod enc Tryz.prog W 0 (fun _ => true) true 26 v d ps) : ∃ l : List Tp, LstTp W v l ∧ l.length ≤ 9223372036854775807 ∧ (∀ x ∈ ps, x.block < W.heap.size) ∧ OkTs l := by
  obtain ⟨l, h1, h2, h3, h4⟩ := open_listG (ok := OkT W) (by decide) te_len Tryz.underlying26 (by kernel_rfl) (fun _ _ _ h => trod_trip h) hval h
  exact ⟨l, ⟨h1, h4⟩, h2, h3, trivial⟩
/-- A trip by value. -/
theorem open_Trip (hval : Value.okWide Tryz.prog W .any base 49 v) (h : DataW.Trod enc Tryz.prog W 0 (fun _ => true) true 49 v d ps) :
    ∃ (s : ByteArray) (r c : Int) (f : Bool) (cv : Value) (l : List Cl), v = .agg #[.string s, .int .i64 r, .int .i64 c, .bool f, cv] ∧ (∀ x ∈ ps, x.block < W.heap.size) ∧ LstC W cv l ∧ l.length ≤ 9223372036854775807 ∧ OkS l := by
  have hlt := (trodAll_mk1 h).lt
  obtain ⟨v0, v1, v2, v3, v4, y0, y1, y2, y3, y4, n, rfl, h0, h1, h2, h3, h4⟩ := open_agg5 Tryz.underlying49 (by kernel_rfl) (by kernel_rfl) hval h
  obtain ⟨s, e0, -⟩ := DataW.trod_string Tryz.underlying9 h0
  obtain ⟨r, e1, -⟩ := DataW.trod_int Tryz.underlying3 h1
  obtain ⟨k, e2, -⟩ := DataW.trod_int Tryz.underlying3 h2
  obtain ⟨f, e3, -⟩ := DataW.trod_bool Tryz.underlying4 h3
  obtain ⟨cv, l, e4, a1, a2, a3⟩ := trod_calls h4
  simp at e0 e1 e2 e3 e4
  subst e0 e1 e2 e3 e4
  exact ⟨s, r, k, f, _, l, rfl, hlt, a1, a2, a3⟩
end
end Go.Proofs.YtkhalnjgbdpfhaaGreat
