/-
  Whole timetables in memory: the values of their parts, a timetable put into a box of its own, timetables among the arguments. Condition: none beyond each theorem's own hypotheses.
-/
import Derived.Test.YtkhalnjgbdpfhaaGreatTtp
import Derived.Test.YtkhalnjgbdpfhaaGreatShT
import Derived.Deep.Strs
import Derived.Lib.SmallJoins
namespace Go.Proofs.YtkhalnjgbdpfhaaGreat
open Go.RowKit Go.ChangeShapes Go.WideShapes Go.Deep
set_option maxRecDepth 100000

/-- A timetable as a value, in a box: part i lies at a i, with room for c i. -/
abbrev ttV (a : Nat → Option Addr) (c : Nat → Nat) (T : Tt) : Value := .agg #[.slice (a 0) T.st.length (c 0), .slice (a 1) T.ro.length (c 1), .slice (a 2) T.ca.length (c 2), .slice (a 3) T.ex.length (c 3), .slice (a 4) T.tr.length (c 4), .slice (a 5) T.fr.length (c 5), .slice (a 6) T.th.length (c 6), .slice (a 7) T.gu.length (c 7), .slice (a 8) T.pa.length (c 8), .slice (a 9) T.pr.length (c 9), .int .i64 T.di, .int .i64 T.wi, .int .i64 T.cp]
abbrev boxTt (a : Nat → Option Addr) (c : Nat → Nat) (T : Tt) : Obj := .cells #[.slice (a 0) T.st.length (c 0), .slice (a 1) T.ro.length (c 1), .slice (a 2) T.ca.length (c 2), .slice (a 3) T.ex.length (c 3), .slice (a 4) T.tr.length (c 4), .slice (a 5) T.fr.length (c 5), .slice (a 6) T.th.length (c 6), .slice (a 7) T.gu.length (c 7), .slice (a 8) T.pa.length (c 8), .slice (a 9) T.pr.length (c 9), .int .i64 T.di, .int .i64 T.wi, .int .i64 T.cp] 35 (0, 0)
/-- The parts lie there. -/
def TtL (W : World) (a : Nat → Option Addr) (c : Nat → Nat) (T : Tt) : Prop :=
  S13.LstS W (.slice (a 0) T.st.length (c 0)) T.st ∧ S15.LstR W (.slice (a 1) T.ro.length (c 1)) T.ro ∧ S14.LstC W (.slice (a 2) T.ca.length (c 2)) T.ca ∧ S14.LstX W (.slice (a 3) T.ex.length (c 3)) T.ex ∧ LstTp W (.slice (a 4) T.tr.length (c 4)) T.tr ∧ LstF W (.slice (a 5) T.fr.length (c 5)) T.fr ∧ S19.LstH W (.slice (a 6) T.th.length (c 6)) T.th ∧ S19.LstU W (.slice (a 7) T.gu.length (c 7)) T.gu ∧ S20.LstF W (.slice (a 8) T.pa.length (c 8)) T.pa ∧ S21.LstPd W (.slice (a 9) T.pr.length (c 9)) T.pr
theorem TtL.below {W W' : World} {a : Nat → Option Addr} {c : Nat → Nat} {T : Tt} (h : TtL W a c T) (b : Below W.heap.size W W') : TtL W' a c T := by
  obtain ⟨h0, h1, h2, h3, h4, h5, h6, h7, h8, h9⟩ := h
  exact ⟨h0.below b, h1.below b, h2.below b, h3.below b, h4.below b, h5.below b, h6.below b, h7.below b, h8.below b, h9.below b⟩
theorem TtL.st {W : World} {a : Nat → Option Addr} {c : Nat → Nat} {T : Tt} (h : TtL W a c T) : S13.LstS W (.slice (a 0) T.st.length (c 0)) T.st := h.1
theorem TtL.ro {W : World} {a : Nat → Option Addr} {c : Nat → Nat} {T : Tt} (h : TtL W a c T) : S15.LstR W (.slice (a 1) T.ro.length (c 1)) T.ro := h.2.1
theorem TtL.ca {W : World} {a : Nat → Option Addr} {c : Nat → Nat} {T : Tt} (h : TtL W a c T) : S14.LstC W (.slice (a 2) T.ca.length (c 2)) T.ca := h.2.2.1
theorem TtL.ex {W : World} {a : Nat → Option Addr} {c : Nat → Nat} {T : Tt} (h : TtL W a c T) : S14.LstX W (.slice (a 3) T.ex.length (c 3)) T.ex := h.2.2.2.1
theorem TtL.tr {W : World} {a : Nat → Option Addr} {c : Nat → Nat} {T : Tt} (h : TtL W a c T) : LstTp W (.slice (a 4) T.tr.length (c 4)) T.tr := h.2.2.2.2.1
theorem TtL.fr {W : World} {a : Nat → Option Addr} {c : Nat → Nat} {T : Tt} (h : TtL W a c T) : LstF W (.slice (a 5) T.fr.length (c 5)) T.fr := h.2.2.2.2.2.1
theorem TtL.th {W : World} {a : Nat → Option Addr} {c : Nat → Nat} {T : Tt} (h : TtL W a c T) : S19.LstH W (.slice (a 6) T.th.length (c 6)) T.th := h.2.2.2.2.2.2.1
theorem TtL.gu {W : World} {a : Nat → Option Addr} {c : Nat → Nat} {T : Tt} (h : TtL W a c T) : S19.LstU W (.slice (a 7) T.gu.length (c 7)) T.gu := h.2.2.2.2.2.2.2.1
theorem TtL.pa {W : World} {a : Nat → Option Addr} {c : Nat → Nat} {T : Tt} (h : TtL W a c T) : S20.LstF W (.slice (a 8) T.pa.length (c 8)) T.pa := h.2.2.2.2.2.2.2.2.1
theorem TtL.pr {W : World} {a : Nat → Option Addr} {c : Nat → Nat} {T : Tt} (h : TtL W a c T) : S21.LstPd W (.slice (a 9) T.pr.length (c 9)) T.pr := h.2.2.2.2.2.2.2.2.2
theorem row_tt {w : World} {k : Nat} {a : Nat → Option Addr} {c : Nat → Nat} {T : Tt} (h : w.heap[k]? = some (boxTt a c T)) :
    w.cell? ⟨k, 0, none⟩ = some (.slice (a 0) T.st.length (c 0)) ∧ w.cell? ⟨k, 1, none⟩ = some (.slice (a 1) T.ro.length (c 1)) ∧ w.cell? ⟨k, 2, none⟩ = some (.slice (a 2) T.ca.length (c 2)) ∧ w.cell? ⟨k, 3, none⟩ = some (.slice (a 3) T.ex.length (c 3)) ∧ w.cell? ⟨k, 4, none⟩ = some (.slice (a 4) T.tr.length (c 4)) ∧ w.cell? ⟨k, 5, none⟩ = some (.slice (a 5) T.fr.length (c 5)) ∧ w.cell? ⟨k, 6, none⟩ = some (.slice (a 6) T.th.length (c 6)) ∧ w.cell? ⟨k, 7, none⟩ = some (.slice (a 7) T.gu.length (c 7)) ∧ w.cell? ⟨k, 8, none⟩ = some (.slice (a 8) T.pa.length (c 8)) ∧ w.cell? ⟨k, 9, none⟩ = some (.slice (a 9) T.pr.length (c 9)) ∧ w.cell? ⟨k, 10, none⟩ = some (.int .i64 T.di) ∧ w.cell? ⟨k, 11, none⟩ = some (.int .i64 T.wi) ∧ w.cell? ⟨k, 12, none⟩ = some (.int .i64 T.cp) :=
  ⟨by rw [cell_of_row _ _ 0 _ _ _ h]; rfl, by rw [cell_of_row _ _ 1 _ _ _ h]; rfl, by rw [cell_of_row _ _ 2 _ _ _ h]; rfl, by rw [cell_of_row _ _ 3 _ _ _ h]; rfl, by rw [cell_of_row _ _ 4 _ _ _ h]; rfl, by rw [cell_of_row _ _ 5 _ _ _ h]; rfl, by rw [cell_of_row _ _ 6 _ _ _ h]; rfl, by rw [cell_of_row _ _ 7 _ _ _ h]; rfl, by rw [cell_of_row _ _ 8 _ _ _ h]; rfl, by rw [cell_of_row _ _ 9 _ _ _ h]; rfl, by rw [cell_of_row _ _ 10 _ _ _ h]; rfl, by rw [cell_of_row _ _ 11 _ _ _ h]; rfl, by rw [cell_of_row _ _ 12 _ _ _ h]; rfl⟩
theorem box_tt {w w7 : World} {a : Nat → Option Addr} {c : Nat → Nat} {T : Tt} (h : w.alloc (boxTt a c T) = w7) :
    Below w.heap.size w w7 ∧ w.heap.size < w7.heap.size ∧ w7.heap[w.heap.size]? = some (boxTt a c T) := by
  subst h
  exact ⟨(Below.refl _ _).alloc (Nat.le_refl _) _, by simp, heap_alloc_new w _⟩
/-- What is known of a timetable that came in. -/
def OkTt (T : Tt) : Prop := (∀ (j : Nat) x, T.ex[j]? = some x → S14.Pl64 (S14.plX x)) ∧ S19.Th64 T.th ∧ S19.Gus64 T.gu ∧ S20.L64 T.pa
/-- All lengths have 63 bits. -/
def LnTt (T : Tt) : Prop := T.st.length ≤ 9223372036854775807 ∧ T.ro.length ≤ 9223372036854775807 ∧ T.ca.length ≤ 9223372036854775807 ∧ T.ex.length ≤ 9223372036854775807 ∧ T.tr.length ≤ 9223372036854775807 ∧ T.fr.length ≤ 9223372036854775807 ∧ T.th.length ≤ 9223372036854775807 ∧ T.gu.length ≤ 9223372036854775807 ∧ T.pa.length ≤ 9223372036854775807 ∧ T.pr.length ≤ 9223372036854775807

/-! ### Among the arguments -/
instance : Inhabited S13.St := ⟨([], 0, false, 0)⟩
instance : Inhabited Rt := ⟨([], 0, false)⟩
instance : Inhabited S14.Cl := ⟨([], fun _ => false, 0, 0)⟩
instance : Inhabited S14.Ex := ⟨(0, 0, false)⟩
instance : Inhabited Fq := ⟨(0, 0, 0, 0)⟩
instance : Inhabited S19.Th := ⟨(0, 0)⟩
instance : Inhabited S19.Gt := ⟨(0, 0, 0)⟩
instance : Inhabited S20.Fp := ⟨(0, 0, 0, false)⟩
instance : Inhabited S21.Pd := ⟨([], 0, 0, 0, 0, 0)⟩
theorem trod_freq {H : Type} {enc : TypeId × Value → H} {W : World} {n : Nat} {cs : List Value} {x : DataW H × List MemPlace} (h : DataW.trod enc Tryz.prog W 0 (fun _ => true) true n 77 cs = some x) : ∃ a : Fq, (fun _ : Fq => True) a ∧ cs = fe a := by
  obtain ⟨y0, y1, y2, y3, n, _, hl, h0, h1, h2, h3⟩ := Go.Joins.trod_struct4 Tryz.underlying77 h
  rw [show Tryz.prog.cellsOf 77 = 4 by kernel_rfl] at hl
  match cs, hl with
  | [c0, c1, c2, c3], _ =>
    simp only [show Tryz.prog.cellsOf 3 = 1 by kernel_rfl] at h0 h1 h2 h3
    obtain ⟨t, e0, -⟩ := DataW.trod_int Tryz.underlying3 h0
    obtain ⟨a, e1, -⟩ := DataW.trod_int Tryz.underlying3 h1
    obtain ⟨b, e2, -⟩ := DataW.trod_int Tryz.underlying3 h2
    obtain ⟨v, e3, -⟩ := DataW.trod_int Tryz.underlying3 h3
    simp at e0 e1 e2 e3
    subst e0 e1 e2 e3
    exact ⟨(t, a, b, v), trivial, rfl⟩
theorem trod_fares {H : Type} {enc : TypeId × Value → H} {W : World} {n : Nat} {cs : List Value} {x : DataW H × List MemPlace} (h : DataW.trod enc Tryz.prog W 0 (fun _ => true) true n 33 cs = some x) :
    ∃ v l d wi c, cs = [v, .int .i64 d, .int .i64 wi, .int .i64 c] ∧ S21.LstPd W v l ∧ l.length ≤ 9223372036854775807 := by
  obtain ⟨y0, y1, y2, y3, n, _, hl, h0, h1, h2, h3⟩ := Go.Joins.trod_struct4 Tryz.underlying33 h
  rw [show Tryz.prog.cellsOf 33 = 4 by kernel_rfl] at hl
  match cs, hl with
  | [c0, c1, c2, c3], _ =>
    simp only [show Tryz.prog.cellsOf 3 = 1 by kernel_rfl, show Tryz.prog.cellsOf 31 = 1 by kernel_rfl] at h0 h1 h2 h3
    obtain ⟨v, l, e0, a1, a2, -⟩ := trod_listG (ok := S21.OkPd1) (by decide) S21.pdE_len Tryz.underlying31 (by kernel_rfl) (fun _ _ _ h => S21.trod_prod h) h0
    obtain ⟨d, e1, -⟩ := DataW.trod_int Tryz.underlying3 h1
    obtain ⟨wi, e2, -⟩ := DataW.trod_int Tryz.underlying3 h2
    obtain ⟨c, e3, -⟩ := DataW.trod_int Tryz.underlying3 h3
    simp at e0 e1 e2 e3
    subst e0 e1 e2 e3
    exact ⟨_, l, d, wi, c, rfl, a1, a2⟩
theorem array_13 {α : Type} {a : Array α} (h : a.size = 13) : ∃ x0 x1 x2 x3 x4 x5 x6 x7 x8 x9 x10 x11 x12, a = #[x0, x1, x2, x3, x4, x5, x6, x7, x8, x9, x10, x11, x12] := by
  obtain ⟨l⟩ := a
  match l, h with
  | [x0, x1, x2, x3, x4, x5, x6, x7, x8, x9, x10, x11, x12], _ => exact ⟨x0, x1, x2, x3, x4, x5, x6, x7, x8, x9, x10, x11, x12, rfl⟩
theorem trod_struct10 {H : Type} {enc : TypeId × Value → H} {P : Program} {w : World} {base : Nat} {spare : Nat → Bool} {held : Bool} {t : TypeId} {f0 f1 f2 f3 f4 f5 f6 f7 f8 f9 : Field} {fuel : Nat} {cs : List Value} {x : DataW H × List MemPlace} (ht : P.underlying t = some (.struct #[f0, f1, f2, f3, f4, f5, f6, f7, f8, f9])) (h : DataW.trod enc P w base spare held fuel t cs = some x) :
    ∃ n, cs.length = P.cellsOf t ∧ (∃ y, DataW.trod enc P w base spare held n f0.type ((cs.drop f0.offset).take (P.cellsOf f0.type)) = some y) ∧ (∃ y, DataW.trod enc P w base spare held n f1.type ((cs.drop f1.offset).take (P.cellsOf f1.type)) = some y) ∧ (∃ y, DataW.trod enc P w base spare held n f2.type ((cs.drop f2.offset).take (P.cellsOf f2.type)) = some y) ∧ (∃ y, DataW.trod enc P w base spare held n f3.type ((cs.drop f3.offset).take (P.cellsOf f3.type)) = some y) ∧ (∃ y, DataW.trod enc P w base spare held n f4.type ((cs.drop f4.offset).take (P.cellsOf f4.type)) = some y) ∧ (∃ y, DataW.trod enc P w base spare held n f5.type ((cs.drop f5.offset).take (P.cellsOf f5.type)) = some y) ∧ (∃ y, DataW.trod enc P w base spare held n f6.type ((cs.drop f6.offset).take (P.cellsOf f6.type)) = some y) ∧ (∃ y, DataW.trod enc P w base spare held n f7.type ((cs.drop f7.offset).take (P.cellsOf f7.type)) = some y) ∧ (∃ y, DataW.trod enc P w base spare held n f8.type ((cs.drop f8.offset).take (P.cellsOf f8.type)) = some y) ∧ (∃ y, DataW.trod enc P w base spare held n f9.type ((cs.drop f9.offset).take (P.cellsOf f9.type)) = some y) := by
  obtain ⟨xs, n, _, rfl, hl, hlen, hf⟩ := DataW.trod_struct ht h
  match xs, hlen with
  | [y0, y1, y2, y3, y4, y5, y6, y7, y8, y9], _ => exact ⟨n, hl, ⟨y0, by simpa using hf 0 f0 rfl⟩, ⟨y1, by simpa using hf 1 f1 rfl⟩, ⟨y2, by simpa using hf 2 f2 rfl⟩, ⟨y3, by simpa using hf 3 f3 rfl⟩, ⟨y4, by simpa using hf 4 f4 rfl⟩, ⟨y5, by simpa using hf 5 f5 rfl⟩, ⟨y6, by simpa using hf 6 f6 rfl⟩, ⟨y7, by simpa using hf 7 f7 rfl⟩, ⟨y8, by simpa using hf 8 f8 rfl⟩, ⟨y9, by simpa using hf 9 f9 rfl⟩⟩
theorem some_slice {α : Type} {enc : α → List Value} {W : World} {v : Value} {l : List α} (h : LstG enc W v l) : ∃ A n, v = .slice A l.length n := by
  obtain ⟨A, n, e, -⟩ := h
  exact ⟨A, n, e⟩
/-- A timetable by value. -/
theorem open_Timetable {H : Type} {enc : TypeId × Value → H} {W : World} {base : Nat} {v : Value} {d : DataW H} {ps : List MemPlace} (hval : Value.okWide Tryz.prog W .any base 35 v) (h : DataW.Trod enc Tryz.prog W 0 (fun _ => true) true 35 v d ps) :
    ∃ (a : Nat → Option Addr) (c : Nat → Nat) (T : Tt), v = ttV a c T ∧ (∀ x ∈ ps, x.block < W.heap.size) ∧ TtL W a c T ∧ LnTt T ∧ OkTt T := by
  have hlt := (trodAll_mk1 h).lt
  obtain ⟨cs, rfl, hsz⟩ := okWide_struct Tryz.underlying35 hval
  obtain ⟨c0, c1, c2, c3, c4, c5, c6, c7, c8, c9, c10, c11, c12, rfl⟩ := array_13 (hsz.trans (by kernel_rfl))
  obtain ⟨fuel, hf⟩ := h
  obtain ⟨n, -, ⟨z0, h0⟩, ⟨z1, h1⟩, ⟨z2, h2⟩, ⟨z3, h3⟩, ⟨z4, h4⟩, ⟨z5, h5⟩, ⟨z6, h6⟩, ⟨z7, h7⟩, ⟨z8, h8⟩, ⟨z9, h9⟩⟩ := trod_struct10 Tryz.underlying35 hf
  simp only [show Tryz.prog.cellsOf 33 = 4 by kernel_rfl, show Tryz.prog.cellsOf 22 = 1 by kernel_rfl, show Tryz.prog.cellsOf 23 = 1 by kernel_rfl, show Tryz.prog.cellsOf 24 = 1 by kernel_rfl, show Tryz.prog.cellsOf 25 = 1 by kernel_rfl, show Tryz.prog.cellsOf 26 = 1 by kernel_rfl, show Tryz.prog.cellsOf 27 = 1 by kernel_rfl, show Tryz.prog.cellsOf 28 = 1 by kernel_rfl, show Tryz.prog.cellsOf 29 = 1 by kernel_rfl, show Tryz.prog.cellsOf 30 = 1 by kernel_rfl] at h0 h1 h2 h3 h4 h5 h6 h7 h8 h9
  obtain ⟨v0, l0, e0, a0, n0, k0⟩ := trod_listG (ok := fun _ : S13.St => True) (by decide) S13.se_len Tryz.underlying22 (by kernel_rfl) (fun _ _ _ h => by obtain ⟨a, -, e⟩ := S13.trod_stop h; exact ⟨a, trivial, e⟩) h0
  obtain ⟨v1, l1, e1, a1, n1, k1⟩ := trod_listG (ok := fun _ : Rt => True) (by decide) S15.re_len Tryz.underlying23 (by kernel_rfl) (fun _ _ _ h => by obtain ⟨a, -, e⟩ := S15.trod_route h; exact ⟨a, trivial, e⟩) h1
  obtain ⟨v2, l2, e2, a2, n2, k2⟩ := trod_listG (ok := fun _ : S14.Cl => True) (by decide) S14.ce_len Tryz.underlying24 (by kernel_rfl) (fun _ _ _ h => by obtain ⟨a, -, e⟩ := S14.trod_cal h; exact ⟨a, trivial, e⟩) h2
  obtain ⟨v3, l3, e3, a3, n3, k3⟩ := trod_listG (ok := fun a : S14.Ex => (-9223372036854775808 ≤ a.1 ∧ a.1 ≤ 9223372036854775807) ∧ -9223372036854775808 ≤ a.2.1 ∧ a.2.1 ≤ 9223372036854775807) (by decide) S14.xe_len Tryz.underlying25 (by kernel_rfl) (fun _ _ _ h => S14.trod_exc h) h3
  obtain ⟨v4, l4, e4, a4, n4, k4⟩ := trod_listG (ok := OkT W) (by decide) te_len Tryz.underlying26 (by kernel_rfl) (fun _ _ _ h => trod_trip h) h4
  obtain ⟨v5, l5, e5, a5, n5, k5⟩ := trod_listG (ok := fun _ : Fq => True) (by decide) fe_len Tryz.underlying27 (by kernel_rfl) (fun _ _ _ h => trod_freq h) h5
  obtain ⟨v6, l6, e6, a6, n6, k6⟩ := trod_listG (ok := fun x : S19.Th => S19.Ix64 x.1 ∧ S19.Ix64 x.2) (by decide) S19.hh_len Tryz.underlying28 (by kernel_rfl) (fun _ _ _ h => S19.trod_thr h) h6
  obtain ⟨v7, l7, e7, a7, n7, k7⟩ := trod_listG (ok := fun x : S19.Gt => S19.Gu64 x) (by decide) S19.gg_len Tryz.underlying29 (by kernel_rfl) (fun _ _ _ h => S19.trod_gua h) h7
  obtain ⟨v8, l8, e8, a8, n8, k8⟩ := trod_listG (ok := fun x : S20.Fp => S20.Ky64 (S20.kyP x)) (by decide) S20.fe_len Tryz.underlying30 (by kernel_rfl) (fun _ _ _ h => S20.trod_foot h) h8
  obtain ⟨v9, l9, di, wi, cp, e9, a9, n9⟩ := trod_fares h9
  simp [Value.cells] at e0 e1 e2 e3 e4 e5 e6 e7 e8 e9
  obtain ⟨e9, e10, e11, e12⟩ := e9
  subst e0 e1 e2 e3 e4 e5 e6 e7 e8 e9 e10 e11 e12
  obtain ⟨A0, m0, rfl⟩ := some_slice a0
  obtain ⟨A1, m1, rfl⟩ := some_slice a1
  obtain ⟨A2, m2, rfl⟩ := some_slice a2
  obtain ⟨A3, m3, rfl⟩ := some_slice a3
  obtain ⟨A4, m4, rfl⟩ := some_slice a4
  obtain ⟨A5, m5, rfl⟩ := some_slice a5
  obtain ⟨A6, m6, rfl⟩ := some_slice a6
  obtain ⟨A7, m7, rfl⟩ := some_slice a7
  obtain ⟨A8, m8, rfl⟩ := some_slice a8
  obtain ⟨A9, m9, rfl⟩ := some_slice a9
  refine ⟨fun i => [A0, A1, A2, A3, A4, A5, A6, A7, A8, A9].getD i none, fun i => [m0, m1, m2, m3, m4, m5, m6, m7, m8, m9].getD i 0, ⟨l0, l1, l2, l3, l4, l5, l6, l7, l8, l9, di, wi, cp⟩, rfl, hlt, ?_, ⟨n0, n1, n2, n3, n4, n5, n6, n7, n8, n9⟩, ?_⟩
  · exact ⟨a0, a1, a2, a3, ⟨a4, k4⟩, a5, a6, a7, a8, a9⟩
  · exact ⟨fun j x hx => k3 x (List.mem_iff_getElem?.2 ⟨j, hx⟩), k6, k7, k8⟩
end Go.Proofs.YtkhalnjgbdpfhaaGreat
