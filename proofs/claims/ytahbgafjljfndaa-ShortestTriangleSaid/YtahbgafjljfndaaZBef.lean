/-
  Which of two elements of a heap comes before the other one. Condition: keys are ints.
-/
import Derived.Test.YtahbgafjljfndaaZSt
import Derived.BigRegion
import Derived.StillTailTactics
namespace Go.Proofs.Ytahbgafjljfndaa
open Go.RowKit

/-- Two new blocks. -/
theorem two_new (w : World) (A B : Array Value) (T U : TypeId) : Below w.heap.size w ((w.alloc (.cells A T (0, 0))).alloc (.cells B U (0, 0))).drew ∧ (∀ k, (((w.alloc (.cells A T (0, 0))).alloc (.cells B U (0, 0))).drew).cell? ⟨w.heap.size, k, none⟩ = A[k]?) ∧ (∀ k, (((w.alloc (.cells A T (0, 0))).alloc (.cells B U (0, 0))).drew).cell? ⟨w.heap.size + 1, k, none⟩ = B[k]?) ∧ w.heap.size + 2 = (((w.alloc (.cells A T (0, 0))).alloc (.cells B U (0, 0))).drew).heap.size := by
  refine ⟨(((Below.refl _ _).alloc (Nat.le_refl _) _).alloc (by simp) _).drew, fun k => ?_, fun k => ?_, ?_⟩
  · show ((w.alloc (.cells A T (0, 0))).alloc (.cells B U (0, 0))).cell? _ = _
    exact cell_of_row _ _ k _ _ _ (heap_alloc2_old w _ _)
  · show ((w.alloc (.cells A T (0, 0))).alloc (.cells B U (0, 0))).cell? _ = _
    exact cell_of_row _ _ k _ _ _ (heap_alloc2_new w _ _)
  · show _ = ((w.alloc (.cells A T (0, 0))).alloc (.cells B U (0, 0))).heap.size
    simp
theorem ret_boolb {a b : Bool} (h : a = b) {w w' : World} {B : Nat} (hb : Below B w w') : Ending.returned (.bool a) = Ending.returned (.bool b) ∧ Below B w w' := ⟨by rw [h], hb⟩
set_option maxRecDepth 100000 in
set_option maxHeartbeats 4000000 in
theorem before_any {fn : Value} {less : Pr → Pr → Bool} (hf : Fun fn less) (B n : Nat) (l : List (Pr × Nat)) (i j : Nat) (a b : Pr × Nat) (ha : l[i]? = some a) (hb : l[j]? = some b) (hl : l.length ≤ 1048576) (w : World) (h : St w B fn l n) :
    Calls Try.prog 44 #[.pointer (some ⟨B, 0, none⟩), .int .i64 (i : Int), .int .i64 (j : Int)] w fun e w' => e = .returned (.bool (bef less a b)) ∧ Below w.heap.size w w' := by
  obtain ⟨K, rfl, ce, cc⟩ := hf
  have C := Lib.hid (cc a.1 b.1 (h.ok ha) (h.ok hb))
  have D := Lib.hid (cc b.1 a.1 (h.ok hb) (h.ok ha))
  clear cc
  have hi := (List.getElem?_eq_some_iff.1 ha).1
  have hj := (List.getElem?_eq_some_iff.1 hb).1
  obtain ⟨v, m0, m1, m2, -, -, -, o⟩ := h.cells
  rcases o.low with ⟨-, rfl⟩ | ⟨g, c, rfl, g0, g1, hc⟩
  · simp at hi
  obtain ⟨x0, x1, x2, x3, -⟩ := OwnE.at o ha
  obtain ⟨y0, y1, y2, y3, -⟩ := OwnE.at o hb
  clear o
  have hi' : (i : Int) < (l.length : Int) := by omega
  have hj' : (j : Int) < (l.length : Int) := by omega
  have hB := h.lt
  clear h ha hb
  have M0 := Lib.hid m0
  obtain ⟨x, hx⟩ : ∃ x, less a.1 b.1 = x := ⟨_, rfl⟩
  obtain ⟨y, hy⟩ : ∃ y, less b.1 a.1 = y := ⟨_, rfl⟩
  have HR : Hid (bef less a b = (x || (decide (a.2 < b.2) && !y))) := by unfold bef; rw [hx, hy]; exact rfl
  rw [hx] at C
  rw [hy] at D
  clear hx hy
  go_enter Try.func44, Try.ntmps44
  go_wp2_with fail
  go_region
  (obtain ⟨b1, z0, z1, hz⟩ := two_new w #[.int .i64 a.1.1, .int .i64 a.1.2.1, .int .i64 a.1.2.2, .int .u64 (a.2 : Int)] #[.int .i64 b.1.1, .int .i64 b.1.2.1, .int .i64 b.1.2.2, .int .u64 (b.2 : Int)] 79 79
   generalize ((w.alloc (.cells #[.int .i64 a.1.1, .int .i64 a.1.2.1, .int .i64 a.1.2.2, .int .u64 (a.2 : Int)] 79)).alloc (.cells #[.int .i64 b.1.1, .int .i64 b.1.2.1, .int .i64 b.1.2.2, .int .u64 (b.2 : Int)] 79)).drew = w1 at b1 z0 z1 hz ⊢
   rotate_left)
  (obtain ⟨b1, z0, z1, hz⟩ := two_new w #[.int .i64 b.1.1, .int .i64 b.1.2.1, .int .i64 b.1.2.2, .int .u64 (b.2 : Int)] #[.int .i64 a.1.1, .int .i64 a.1.2.1, .int .i64 a.1.2.2, .int .u64 (a.2 : Int)] 79 79
   generalize ((w.alloc (.cells #[.int .i64 b.1.1, .int .i64 b.1.2.1, .int .i64 b.1.2.2, .int .u64 (b.2 : Int)] 79)).alloc (.cells #[.int .i64 a.1.1, .int .i64 a.1.2.1, .int .i64 a.1.2.2, .int .u64 (a.2 : Int)] 79)).drew = w1 at b1 z0 z1 hz ⊢)
  all_goals
    have k0 := z0 0
    have k1 := z0 1
    have k2 := z0 2
    have k3 := z0 3
    have j0 := z1 0
    have j1 := z1 1
    have j2 := z1 2
    have j3 := z1 3
    simp at k0 k1 k2 k3 j0 j1 j2 j3
    have m1 := (b1.cell (p := ⟨B, 0, none⟩) hB).trans M0.out
    have B1 := Lib.hid b1
    have HZ := Lib.hid hz
    clear z0 z1 x0 x1 x2 x3 y0 y1 y2 y3 m0 m2 b1 hz
    go_wp2_with fail
    go_still_tail 8, (by kernel_rfl)
    change wpList _ _ _ _ _ w1.drew
    go_wp2_with fail
    refine (rel (W := w1) (C.out _) (Below.refl _ _).drew).mono ?_
    rintro e w3 ⟨rfl, b3⟩
    have n0 := (b3.cell (p := ⟨w.heap.size, 0, none⟩) (by have := HZ.out; show w.heap.size < _; omega)).trans k0
    have n1 := (b3.cell (p := ⟨w.heap.size, 1, none⟩) (by have := HZ.out; show w.heap.size < _; omega)).trans k1
    have n2 := (b3.cell (p := ⟨w.heap.size, 2, none⟩) (by have := HZ.out; show w.heap.size < _; omega)).trans k2
    have n3 := (b3.cell (p := ⟨w.heap.size, 3, none⟩) (by have := HZ.out; show w.heap.size < _; omega)).trans k3
    have o0 := (b3.cell (p := ⟨w.heap.size + 1, 0, none⟩) (by have := HZ.out; show w.heap.size + 1 < _; omega)).trans j0
    have o1 := (b3.cell (p := ⟨w.heap.size + 1, 1, none⟩) (by have := HZ.out; show w.heap.size + 1 < _; omega)).trans j1
    have o2 := (b3.cell (p := ⟨w.heap.size + 1, 2, none⟩) (by have := HZ.out; show w.heap.size + 1 < _; omega)).trans j2
    have o3 := (b3.cell (p := ⟨w.heap.size + 1, 3, none⟩) (by have := HZ.out; show w.heap.size + 1 < _; omega)).trans j3
    have p0 := (b3.cell (p := ⟨B, 0, none⟩) (by have := HZ.out; show B < _; omega)).trans m1
    have B3 : Hid (Below w.heap.size w w3) := B1.out.trans (b3.mono B1.out.size)
    clear b3 k0 k1 k2 k3 j0 j1 j2 j3 m1 B1 HZ C M0
    cases x with
    | true =>
      clear n0 n1 n2 n3 o0 o1 o2 o3 p0 D
      go_wp2_with fail
      go_ret
      exact ret_boolb (by rw [HR.out]; rfl) B3.out
    | false =>
      by_cases hn : a.2 < b.2
      · go_wp2_with fail
        go_still_tail 14, (by kernel_rfl)
        change wpList _ _ _ _ _ w3.drew
        go_wp2_with fail
        refine (rel (W := w3) (D.out _) (Below.refl _ _).drew).mono ?_
        rintro e w4 ⟨rfl, b4⟩
        have B4 : Hid (Below w.heap.size w w4) := B3.out.trans (b4.mono B3.out.size)
        clear n0 n1 n2 n3 o0 o1 o2 o3 p0 b4
        go_wp2_with fail
        go_ret
        exact ret_boolb (by rw [HR.out]; simp [hn]) B4.out
      · have hd : decide (a.2 < b.2) = false := decide_eq_false hn
        clear D p0
        go_wp2_with fail
        go_quiet (fail)
        go_wp2_with fail
        go_ret
        exact ret_boolb (by rw [HR.out, hd]; rfl) (below_drewN B3.out _)
end Go.Proofs.Ytahbgafjljfndaa
