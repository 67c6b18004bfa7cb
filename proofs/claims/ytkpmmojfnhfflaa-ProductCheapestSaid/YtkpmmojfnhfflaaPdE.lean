/-
  The laws' exampleHolds: what the call answers; nothing that existed before the call has changed behind it. Condition: none.
-/
import Derived.Test.YtkpmmojfnhfflaaPdW
import Derived.Test.YtkpmmojfnhfflaaPdP
import Derived.Test.YtkpmmojfnhfflaaSameI
namespace Go.Proofs.Ytkpmmojfnhfflaa
open Go.RowKit

def exA : Pd := ([97], 120, 2, 2, 600, 255)
def exB : Pd := ([98], 30, 1, 1, 0, 1)
def exP : List Pd := [exA, exB]
def exR : Ri := (0, 0, 1, 1)
def exQ (t : Int) : Ri := (t, 0, 3, 2)
theorem ex_c : chkPd 50 300 0 exP = (0, 0) := by decide +kernel
theorem ex_p1 : prA 50 300 0 exP 0 false 300 = (70, true) := by decide +kernel
theorem ex_p2 : prA 50 300 0 exP 0 false 301 = (120, true) := by decide +kernel
theorem ex_p3 : prA 50 300 0 exP 1 false 0 = (0, true) := by decide +kernel
theorem ex_ch : chA 50 300 0 exP [exR] = (1, 30, true) := by decide +kernel
theorem ex_v1 : covPd exA [exR, exQ 601] = false := by decide +kernel
theorem ex_v2 : covPd exA [exR, exQ 600] = true := by decide +kernel
theorem ex_v3 : covPd exA [exR, exQ 600, exQ 600] = false := by decide +kernel
theorem ex_o : optPd exP [exR] = [0, 1] := by decide +kernel
theorem ex_ok : OkPds exP := by
  intro x hx
  simp [exP] at hx
  rcases hx with rfl | rfl <;> (unfold OkPd1 Ix64; decide)
theorem ri_ok {l : List Ri} (h : l.all (fun x => decide (-9223372036854775808 ≤ x.1 ∧ x.1 ≤ 9223372036854775807)) = true) : OkRis l := fun x hx => (of_decide_eq_true (List.all_eq_true.1 h x hx) : -9223372036854775808 ≤ x.1 ∧ x.1 ≤ 9223372036854775807)
/-- The products' cells. -/
abbrev exC : Obj := .cells #[.string ⟨#[97]⟩, .int .i64 120, .int .i64 2, .int .i64 2, .int .i64 600, .int .i64 255, .string ⟨#[98]⟩, .int .i64 30, .int .i64 1, .int .i64 1, .int .i64 0, .int .i64 1] 34 (0, 0)
theorem lst_row {w : World} {b : Nat} (h : w.heap[b]? = some exC) : LstPd w (.slice (some ⟨b, 0, none⟩) 2 2) exP := by
  refine ⟨_, _, rfl, by decide, fun h => absurd h (by simp), fun _ => ⟨b, 0, rfl, (Array.getElem?_eq_some_iff.1 h).1, fun j x hj => ?_⟩⟩
  rw [Nat.zero_add, cell_of_row _ _ j _ _ _ h, ← hj, ← Array.getElem?_toList]
  rfl
/-- What the example's variables hold: a product, two rides, the products of the fares, the fares. -/
def ExSt (w0 : World) (B : Nat) (t : Int) (W : World) : Prop :=
  W.heap[B]? = some (boxP ⟨#[97]⟩ 120 2 2 600 255) ∧ W.heap[B + 1]? = some (boxRi 0 0 1 1) ∧ W.heap[B + 1 + 1]? = some (boxRi t 0 3 2) ∧ W.heap[B + 1 + 1 + 1]? = some exC ∧ W.heap[B + 1 + 1 + 1 + 1]? = some (boxFa (.slice (some ⟨B + 1 + 1 + 1, 0, none⟩) 2 2) 50 300 0) ∧ w0.heap.size ≤ B ∧ Below w0.heap.size w0 W
theorem ExSt.on {w0 W W' : World} {B : Nat} {t : Int} (h : ExSt w0 B t W) (b : Below W.heap.size W W') : ExSt w0 B t W' := by
  obtain ⟨h0, h1, h2, h3, h4, h5, h6⟩ := h
  exact ⟨(b.block _ (Array.getElem?_eq_some_iff.1 h0).1).trans h0, (b.block _ (Array.getElem?_eq_some_iff.1 h1).1).trans h1, (b.block _ (Array.getElem?_eq_some_iff.1 h2).1).trans h2, (b.block _ (Array.getElem?_eq_some_iff.1 h3).1).trans h3, (b.block _ (Array.getElem?_eq_some_iff.1 h4).1).trans h4, h5, h6.trans (b.mono h6.size)⟩
theorem ExSt.below {w0 W : World} {B : Nat} {t : Int} (h : ExSt w0 B t W) : Below w0.heap.size w0 W := h.2.2.2.2.2.2
theorem ExSt.lst {w0 W : World} {B : Nat} {t : Int} (h : ExSt w0 B t W) : LstPd W (.slice (some ⟨B + 1 + 1 + 1, 0, none⟩) 2 2) exP := lst_row h.2.2.2.1
theorem ExSt.fares {w0 W : World} {B : Nat} {t : Int} (h : ExSt w0 B t W) : W.cell? ⟨B + 1 + 1 + 1 + 1, 0, none⟩ = some (.slice (some ⟨B + 1 + 1 + 1, 0, none⟩) 2 2) ∧ W.cell? ⟨B + 1 + 1 + 1 + 1, 1, none⟩ = some (.int .i64 50) ∧ W.cell? ⟨B + 1 + 1 + 1 + 1, 2, none⟩ = some (.int .i64 300) ∧ W.cell? ⟨B + 1 + 1 + 1 + 1, 3, none⟩ = some (.int .i64 0) := row_fa h.2.2.2.2.1
theorem ExSt.prod {w0 W : World} {B : Nat} {t : Int} (h : ExSt w0 B t W) : W.cell? ⟨B, 0, none⟩ = some (.string ⟨#[97]⟩) ∧ W.cell? ⟨B, 1, none⟩ = some (.int .i64 120) ∧ W.cell? ⟨B, 2, none⟩ = some (.int .i64 2) ∧ W.cell? ⟨B, 3, none⟩ = some (.int .i64 2) ∧ W.cell? ⟨B, 4, none⟩ = some (.int .i64 600) ∧ W.cell? ⟨B, 5, none⟩ = some (.int .i64 255) := row_pd h.1
theorem ExSt.one {w0 W : World} {B : Nat} {t : Int} (h : ExSt w0 B t W) : W.cell? ⟨B + 1, 0, none⟩ = some (.int .i64 0) ∧ W.cell? ⟨B + 1, 1, none⟩ = some (.int .i64 0) ∧ W.cell? ⟨B + 1, 2, none⟩ = some (.int .i64 1) ∧ W.cell? ⟨B + 1, 3, none⟩ = some (.int .i64 1) := row_ri h.2.1
theorem ExSt.two {w0 W : World} {B : Nat} {t : Int} (h : ExSt w0 B t W) : W.cell? ⟨B + 1 + 1, 0, none⟩ = some (.int .i64 t) ∧ W.cell? ⟨B + 1 + 1, 1, none⟩ = some (.int .i64 0) ∧ W.cell? ⟨B + 1 + 1, 2, none⟩ = some (.int .i64 3) ∧ W.cell? ⟨B + 1 + 1, 3, none⟩ = some (.int .i64 2) := row_ri h.2.2.1
theorem ExSt.put {w0 W : World} {B : Nat} {t : Int} (h : ExSt w0 B t W) (u : Int) : W.frozen? ⟨B + 1 + 1, 0, none⟩ = false ∧ ∃ W', W.setCell ⟨B + 1 + 1, 0, none⟩ (.int .i64 u) = W' ∧ ExSt w0 B u W' := by
  obtain ⟨h0, h1, h2, h3, h4, h5, h6⟩ := h
  refine ⟨frozen_of_row _ _ 0 _ _ h2, _, rfl, ?_, ?_, ?_, ?_, ?_, h5, h6.setCell (by show _ ≤ B + 1 + 1; omega) _⟩
  · rw [Below.heap_setCell _ _ _ B (by show B ≠ _; simp only; omega)]; exact h0
  · rw [Below.heap_setCell _ _ _ (B + 1) (by show B + 1 ≠ _; simp only; omega)]; exact h1
  · rw [heap_setCell_same _ _ _ _ _ _ h2]; rfl
  · rw [Below.heap_setCell _ _ _ (B + 1 + 1 + 1) (by show B + 1 + 1 + 1 ≠ _; simp only; omega)]; exact h3
  · rw [Below.heap_setCell _ _ _ (B + 1 + 1 + 1 + 1) (by show B + 1 + 1 + 1 + 1 ≠ _; simp only; omega)]; exact h4
/-- A cell stored that is so already. -/
theorem set_same {w : World} {b i : Nat} {v : Value} {cs : Array Value} {T : TypeId} {fr : Nat × Nat} (h : w.heap[b]? = some (.cells cs T fr)) (hc : cs.setIfInBounds i v = cs) : w.setCell ⟨b, i, none⟩ v = w := by
  unfold World.setCell
  cases w with
  | mk hp tape drawn os out =>
    simp only at h ⊢
    congr 1
    refine Array.ext_getElem? fun j => ?_
    rw [Array.getElem?_modify]
    split
    · next e =>
      subst e
      rw [h]
      simp [hc]
    · rfl
theorem ex_new (w : World) : ∃ W, (((((w.alloc (boxP ⟨#[97]⟩ 120 2 2 600 255)).alloc (boxRi 0 0 1 1)).alloc (boxRi 600 0 3 2)).alloc exC).alloc (boxFa (.slice (some ⟨w.heap.size + 1 + 1 + 1, 0, none⟩) 2 2) 50 300 0)) = W ∧ ExSt w w.heap.size 600 W := by
  obtain ⟨w1, hw1⟩ : ∃ x, w.alloc (boxP ⟨#[97]⟩ 120 2 2 600 255) = x := ⟨_, rfl⟩
  obtain ⟨w2, hw2⟩ : ∃ x, w1.alloc (boxRi 0 0 1 1) = x := ⟨_, rfl⟩
  obtain ⟨w3, hw3⟩ : ∃ x, w2.alloc (boxRi 600 0 3 2) = x := ⟨_, rfl⟩
  obtain ⟨w4, hw4⟩ : ∃ x, w3.alloc exC = x := ⟨_, rfl⟩
  rw [hw1, hw2, hw3, hw4]
  have z1 : w1.heap.size = w.heap.size + 1 := by rw [← hw1]; simp
  have z2 : w2.heap.size = w.heap.size + 1 + 1 := by rw [← hw2]; simp [z1]
  have z3 : w3.heap.size = w.heap.size + 1 + 1 + 1 := by rw [← hw3]; simp [z2]
  have z4 : w4.heap.size = w.heap.size + 1 + 1 + 1 + 1 := by rw [← hw4]; simp [z3]
  have n1 := heap_alloc_new w (boxP ⟨#[97]⟩ 120 2 2 600 255)
  have n2 := heap_alloc_new w1 (boxRi 0 0 1 1)
  have n3 := heap_alloc_new w2 (boxRi 600 0 3 2)
  have n4 := heap_alloc_new w3 exC
  have n5 := heap_alloc_new w4 (boxFa (.slice (some ⟨w.heap.size + 1 + 1 + 1, 0, none⟩) 2 2) 50 300 0)
  have b1 : Below w.heap.size w w1 := by rw [← hw1]; exact (Below.refl _ _).alloc (Nat.le_refl _) _
  have b2 : Below w1.heap.size w1 w2 := by rw [← hw2]; exact (Below.refl _ _).alloc (Nat.le_refl _) _
  have b3 : Below w2.heap.size w2 w3 := by rw [← hw3]; exact (Below.refl _ _).alloc (Nat.le_refl _) _
  have b4 : Below w3.heap.size w3 w4 := by rw [← hw4]; exact (Below.refl _ _).alloc (Nat.le_refl _) _
  have b5 : Below w4.heap.size w4 (w4.alloc (boxFa (.slice (some ⟨w.heap.size + 1 + 1 + 1, 0, none⟩) 2 2) 50 300 0)) := (Below.refl _ _).alloc (Nat.le_refl _) _
  rw [hw1] at n1
  rw [hw2, z1] at n2
  rw [hw3, z2] at n3
  rw [hw4, z3] at n4
  rw [z4] at n5
  refine ⟨_, rfl, ?_, ?_, ?_, ?_, n5, Nat.le_refl _, ?_⟩
  · exact (b5.block _ (by omega)).trans ((b4.block _ (by omega)).trans ((b3.block _ (by omega)).trans ((b2.block _ (by omega)).trans n1)))
  · exact (b5.block _ (by omega)).trans ((b4.block _ (by omega)).trans ((b3.block _ (by omega)).trans n2))
  · exact (b5.block _ (by omega)).trans ((b4.block _ (by omega)).trans n3)
  · exact (b5.block _ (by omega)).trans n4
  · exact b1.trans ((b2.trans ((b3.trans ((b4.trans (b5.mono (by omega))).mono (by omega))).mono (by omega))).mono (by omega))
set_option maxRecDepth 100000 in
set_option maxHeartbeats 4000000 in
theorem ex_any (w : World) : Calls Try.prog 10 #[] w fun e w' => e = .returned (.bool true) ∧ Below w.heap.size w w' := by
  obtain ⟨w5, hw5, s5⟩ := ex_new w
  have S5 := Lib.hid s5
  have q5 : w5.frozen? ⟨w.heap.size + 1 + 1 + 1 + 1, 3, none⟩ = false := frozen_of_row _ _ 3 _ _ s5.2.2.2.2.1
  have e5 : w5.setCell ⟨w.heap.size + 1 + 1 + 1 + 1, 3, none⟩ (.int .i64 0) = w5 := set_same s5.2.2.2.2.1 rfl
  clear s5

  go_enter Try.func10, Try.ntmps10
  obtain ⟨f0, f1, f2, f3⟩ := S5.out.fares
  have C := Lib.hid (kcheck_any (.slice (some ⟨w.heap.size + 1 + 1 + 1, 0, none⟩) 2 2) exP 50 300 0 (by decide) w5 S5.out.lst)
  rw [ex_c] at C
  go_wp2_with fail
  refine C.out.mono ?_
  rintro e w6 ⟨rfl, y6⟩
  have S6 := Lib.hid (S5.out.on y6)
  clear C S5 y6 f0 f1 f2 f3
  obtain ⟨f0, f1, f2, f3⟩ := S6.out.fares
  have C := Lib.hid (kpr_any (.slice (some ⟨w.heap.size + 1 + 1 + 1, 0, none⟩) 2 2) exP 50 300 0 (by decide) 0 false 300 w6 S6.out.lst)
  rw [ex_p1] at C
  go_wp2_with fail
  refine C.out.mono ?_
  rintro e w7 ⟨rfl, y7⟩
  have S7 := Lib.hid (S6.out.on y7)
  clear C S6 y7 f0 f1 f2 f3
  obtain ⟨f0, f1, f2, f3⟩ := S7.out.fares
  have C := Lib.hid (kpr_any (.slice (some ⟨w.heap.size + 1 + 1 + 1, 0, none⟩) 2 2) exP 50 300 0 (by decide) 0 false 301 w7 S7.out.lst)
  rw [ex_p2] at C
  go_wp2_with fail
  refine C.out.mono ?_
  rintro e w8 ⟨rfl, y8⟩
  have S8 := Lib.hid (S7.out.on y8)
  clear C S7 y8 f0 f1 f2 f3
  obtain ⟨f0, f1, f2, f3⟩ := S8.out.fares
  have C := Lib.hid (kpr_any (.slice (some ⟨w.heap.size + 1 + 1 + 1, 0, none⟩) 2 2) exP 50 300 0 (by decide) 1 false 0 w8 S8.out.lst)
  rw [ex_p3] at C
  go_wp2_with fail
  refine C.out.mono ?_
  rintro e w9 ⟨rfl, y9⟩
  have S9 := Lib.hid (S8.out.on y9)
  clear C S8 y9 f0 f1 f2 f3
  obtain ⟨f0, f1, f2, f3⟩ := S9.out.fares
  obtain ⟨a0, a1, a2, a3⟩ := S9.out.one
  obtain ⟨w10, hw10⟩ : ∃ x, w9.alloc (.cells #[.int .i64 0, .int .i64 0, .int .i64 1, .int .i64 1] 45 (0, 0)) = x := ⟨_, rfl⟩
  have y10 : Below w9.heap.size w9 w10 := by rw [← hw10]; exact (Below.refl _ _).alloc (Nat.le_refl _) _
  have S10 := Lib.hid (S9.out.on y10)
  have L10 : Hid (LstRi w10 (.slice (some ⟨w9.heap.size, 0, none⟩) 1 1) [exR]) := Lib.hid (by rw [← hw10]; exact lstG_lit w9 _ _ [exR] rfl 1 rfl)
  have C := Lib.hid (kche_any (.slice (some ⟨w.heap.size + 1 + 1 + 1, 0, none⟩) 2 2) exP 50 300 0 (by decide) ex_ok (.slice (some ⟨w9.heap.size, 0, none⟩) 1 1) [exR] (by decide) (ri_ok (by decide)) w10 S10.out.lst L10.out)
  rw [ex_ch] at C
  go_wp2_with fail
  refine C.out.mono ?_
  rintro e w11 ⟨rfl, y11⟩
  have S11 := Lib.hid (S10.out.on y11)
  clear C S10 S9 y10 y11 L10 hw10 f0 f1 f2 f3 a0 a1 a2 a3
  obtain ⟨z12, w12, e12, s12⟩ := S11.out.put 601
  obtain ⟨bb0, -⟩ := S11.out.two
  have S12 := Lib.hid s12
  clear s12 S11
  obtain ⟨p0, p1, p2, p3, p4, p5⟩ := S12.out.prod
  obtain ⟨a0, a1, a2, a3⟩ := S12.out.one
  obtain ⟨b0, b1, b2, b3⟩ := S12.out.two
  obtain ⟨w13, hw13⟩ : ∃ x, w12.alloc (.cells #[.int .i64 0, .int .i64 0, .int .i64 1, .int .i64 1, .int .i64 601, .int .i64 0, .int .i64 3, .int .i64 2] 45 (0, 0)) = x := ⟨_, rfl⟩
  have y13 : Below w12.heap.size w12 w13 := by rw [← hw13]; exact (Below.refl _ _).alloc (Nat.le_refl _) _
  have S13 := Lib.hid (S12.out.on y13)
  have L13 : Hid (LstRi w13 (.slice (some ⟨w12.heap.size, 0, none⟩) 2 2) [exR, exQ 601]) := Lib.hid (by rw [← hw13]; exact lstG_lit w12 _ _ [exR, exQ 601] rfl 2 rfl)
  have C := Lib.hid (kcov_any [97] ⟨#[97]⟩ 120 2 2 600 255 (by unfold Ix64; decide) (.slice (some ⟨w12.heap.size, 0, none⟩) 2 2) [exR, exQ 601] (by decide) (ri_ok (by decide)) w13 L13.out)
  rw [(show covPd ([97], 120, 2, 2, 600, 255) _ = _ from ex_v1)] at C
  go_wp2_with fail
  refine C.out.mono ?_
  rintro e w14 ⟨rfl, y14⟩
  have S14 := Lib.hid (S13.out.on y14)
  clear C S13 S12 y13 y14 L13 hw13 p0 p1 p2 p3 p4 p5 a0 a1 a2 a3 b0 b1 b2 b3
  clear z12 e12 bb0
  obtain ⟨z15, w15, e15, s15⟩ := S14.out.put 600
  obtain ⟨bb0, -⟩ := S14.out.two
  have S15 := Lib.hid s15
  clear s15 S14
  obtain ⟨p0, p1, p2, p3, p4, p5⟩ := S15.out.prod
  obtain ⟨a0, a1, a2, a3⟩ := S15.out.one
  obtain ⟨b0, b1, b2, b3⟩ := S15.out.two
  obtain ⟨w16, hw16⟩ : ∃ x, w15.alloc (.cells #[.int .i64 0, .int .i64 0, .int .i64 1, .int .i64 1, .int .i64 600, .int .i64 0, .int .i64 3, .int .i64 2] 45 (0, 0)) = x := ⟨_, rfl⟩
  have y16 : Below w15.heap.size w15 w16 := by rw [← hw16]; exact (Below.refl _ _).alloc (Nat.le_refl _) _
  have S16 := Lib.hid (S15.out.on y16)
  have L16 : Hid (LstRi w16 (.slice (some ⟨w15.heap.size, 0, none⟩) 2 2) [exR, exQ 600]) := Lib.hid (by rw [← hw16]; exact lstG_lit w15 _ _ [exR, exQ 600] rfl 2 rfl)
  have C := Lib.hid (kcov_any [97] ⟨#[97]⟩ 120 2 2 600 255 (by unfold Ix64; decide) (.slice (some ⟨w15.heap.size, 0, none⟩) 2 2) [exR, exQ 600] (by decide) (ri_ok (by decide)) w16 L16.out)
  rw [(show covPd ([97], 120, 2, 2, 600, 255) _ = _ from ex_v2)] at C
  go_wp2_with fail
  refine C.out.mono ?_
  rintro e w17 ⟨rfl, y17⟩
  have S17 := Lib.hid (S16.out.on y17)
  clear C S16 S15 y16 y17 L16 hw16 p0 p1 p2 p3 p4 p5 a0 a1 a2 a3 b0 b1 b2 b3
  clear z15 e15 bb0
  obtain ⟨p0, p1, p2, p3, p4, p5⟩ := S17.out.prod
  obtain ⟨a0, a1, a2, a3⟩ := S17.out.one
  obtain ⟨b0, b1, b2, b3⟩ := S17.out.two
  obtain ⟨w18, hw18⟩ : ∃ x, w17.alloc (.cells #[.int .i64 0, .int .i64 0, .int .i64 1, .int .i64 1, .int .i64 600, .int .i64 0, .int .i64 3, .int .i64 2, .int .i64 600, .int .i64 0, .int .i64 3, .int .i64 2] 45 (0, 0)) = x := ⟨_, rfl⟩
  have y18 : Below w17.heap.size w17 w18 := by rw [← hw18]; exact (Below.refl _ _).alloc (Nat.le_refl _) _
  have S18 := Lib.hid (S17.out.on y18)
  have L18 : Hid (LstRi w18 (.slice (some ⟨w17.heap.size, 0, none⟩) 3 3) [exR, exQ 600, exQ 600]) := Lib.hid (by rw [← hw18]; exact lstG_lit w17 _ _ [exR, exQ 600, exQ 600] rfl 3 rfl)
  have C := Lib.hid (kcov_any [97] ⟨#[97]⟩ 120 2 2 600 255 (by unfold Ix64; decide) (.slice (some ⟨w17.heap.size, 0, none⟩) 3 3) [exR, exQ 600, exQ 600] (by decide) (ri_ok (by decide)) w18 L18.out)
  rw [(show covPd ([97], 120, 2, 2, 600, 255) _ = _ from ex_v3)] at C
  go_wp2_with fail
  refine C.out.mono ?_
  rintro e w19 ⟨rfl, y19⟩
  have S19 := Lib.hid (S18.out.on y19)
  clear C S18 S17 y18 y19 L18 hw18 p0 p1 p2 p3 p4 p5 a0 a1 a2 a3 b0 b1 b2 b3
  obtain ⟨f0, f1, f2, f3⟩ := S19.out.fares
  obtain ⟨a0, a1, a2, a3⟩ := S19.out.one
  obtain ⟨w20, hw20⟩ : ∃ x, w19.alloc (.cells #[.int .i64 0, .int .i64 0, .int .i64 1, .int .i64 1] 45 (0, 0)) = x := ⟨_, rfl⟩
  have y20 : Below w19.heap.size w19 w20 := by rw [← hw20]; exact (Below.refl _ _).alloc (Nat.le_refl _) _
  have S20 := Lib.hid (S19.out.on y20)
  have L20 : Hid (LstRi w20 (.slice (some ⟨w19.heap.size, 0, none⟩) 1 1) [exR]) := Lib.hid (by rw [← hw20]; exact lstG_lit w19 _ _ [exR] rfl 1 rfl)
  have C := Lib.hid (kopts_any (.slice (some ⟨w.heap.size + 1 + 1 + 1, 0, none⟩) 2 2) exP 50 300 0 (by decide) ex_ok (.slice (some ⟨w19.heap.size, 0, none⟩) 1 1) [exR] (by decide) (ri_ok (by decide)) w20 S20.out.lst L20.out)
  rw [ex_o] at C
  go_wp2_with fail
  refine C.out.mono ?_
  rintro e w21 ⟨u1, rfl, l1, y21⟩
  have S21 := Lib.hid (S20.out.on y21)
  clear C S20 S19 y20 y21 L20 hw20 f0 f1 f2 f3 a0 a1 a2 a3
  obtain ⟨w22, hw22⟩ : ∃ x, w21.alloc (.cells #[.int .i64 0, .int .i64 1] 3 (0, 0)) = x := ⟨_, rfl⟩
  have y22 : Below w21.heap.size w21 w22 := by rw [← hw22]; exact (Below.refl _ _).alloc (Nat.le_refl _) _
  have K22 : LstI w22 (.slice (some ⟨w21.heap.size, 0, none⟩) 2 2) [0, 1] := by rw [← hw22]; exact lsti_lit w21 _ [0, 1] rfl 2 rfl
  have C := Lib.hid (same_any u1 (.slice (some ⟨w21.heap.size, 0, none⟩) 2 2) [0, 1] [0, 1] (by decide) w22 (l1.below y22) K22)
  rw [decide_eq_true (rfl : ([0, 1] : List Int) = [0, 1])] at C
  have S22 := Lib.hid (S21.out.on y22)
  clear y22 K22 l1 S21
  go_wp2_with fail
  refine C.out.mono ?_
  rintro e w23 ⟨rfl, hd⟩
  have BE := Lib.hid (S22.out.below.trans ((drew_below hd).mono S22.out.below.size))
  clear C hd S22
  go_wp2_with fail
  go_ret
  exact ⟨rfl, BE.out⟩
end Go.Proofs.Ytkpmmojfnhfflaa
