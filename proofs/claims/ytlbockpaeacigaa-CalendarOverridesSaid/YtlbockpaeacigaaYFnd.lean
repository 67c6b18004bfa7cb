/-
  The code's placeOf, find and exceptionsOf: what each call answers; nothing that existed before the call has changed behind it. Condition: none beyond lengths of 63 bits.
-/
import Derived.Test.YtlbockpaeacigaaYPl
import Derived.Test.YtlbockpaeacigaaYDay
namespace Go.Proofs.Ytlbockpaeacigaa
open Go.RowKit

set_option maxRecDepth 100000 in
theorem place_any (k d : Int) (f : Bool) (w : World) : Calls Try.prog 34 #[.agg #[.int .i64 k, .int .i64 d, .bool f]] w fun e w' => e = .returned (.agg #[.int .i64 k, .int .i64 d]) ∧ Below w.heap.size w w' := by
  obtain ⟨w1, h1⟩ : ∃ W, w.alloc (.cells #[.int .i64 k, .int .i64 d, .bool f] 53 (0, 0)) = W := ⟨_, rfl⟩
  obtain ⟨b1, p0, p1, p2, z1⟩ := box_ex h1
  obtain ⟨w2, h2⟩ : ∃ W, w1.alloc (.cells #[.int .i64 0, .int .i64 0] 64 (0, 0)) = W := ⟨_, rfl⟩
  obtain ⟨b2, q0, q1, z2⟩ := box_pl h2
  have B2 := Lib.hid (b1.trans (b2.mono b1.size))
  have r0 := (b2.cell (p := ⟨w.heap.size, 0, none⟩) z1).trans p0
  have r1 := (b2.cell (p := ⟨w.heap.size, 1, none⟩) z1).trans p1
  have hz : w.heap.size ≤ w1.heap.size := b1.size
  have hw2 : w2.heap[w1.heap.size]? = some (.cells #[.int .i64 0, .int .i64 0] 64 (0, 0)) := by rw [← h2]; exact heap_alloc_new _ _
  have v0 := frozen_of_row _ _ 0 _ _ hw2
  have v1 := frozen_of_row _ _ 1 _ _ hw2
  clear b1 b2 p0 p1 p2 hw2
  go_enter Try.func34, Try.ntmps34
  go_wp2_with fail
  exact bodyPost_ret (v := .agg #[.int .i64 k, .int .i64 d]) (by simp [results, Try.results34, go_sem, q0, q1]) rfl ⟨rfl, (B2.out.setCell (p := ⟨w1.heap.size, 0, none⟩) hz _).setCell (p := ⟨w1.heap.size, 1, none⟩) hz _⟩
/-- Three cells of a box stored. -/
theorem store_three {w w5 : World} {B : Nat} {x0 x1 x2 y0 y1 y2 : Value} {T : TypeId} {fr : Nat × Nat} (h : w.heap[B]? = some (.cells #[x0, x1, x2] T fr)) (h5 : ((w.setCell ⟨B, 0, none⟩ y0).setCell ⟨B, 1, none⟩ y1).setCell ⟨B, 2, none⟩ y2 = w5) :
    w5.heap[B]? = some (.cells #[y0, y1, y2] T fr) ∧ (∀ j, j ≠ B → w5.heap[j]? = w.heap[j]?) ∧ w5.heap.size = w.heap.size ∧ ∀ base w0, base ≤ B → Below base w0 w → Below base w0 w5 := by
  subst h5
  refine ⟨?_, fun j hj => ?_, by simp [World.setCell], fun base w0 hb b => ((b.setCell (p := ⟨B, 0, none⟩) hb _).setCell (p := ⟨B, 1, none⟩) hb _).setCell (p := ⟨B, 2, none⟩) hb _⟩
  · simp [World.setCell, Array.getElem?_modify, h]
  · rw [Below.heap_setCell _ _ _ _ (by exact hj), Below.heap_setCell _ _ _ _ (by exact hj), Below.heap_setCell _ _ _ _ (by exact hj)]
theorem three_cells {w : World} {B : Nat} {x0 x1 x2 : Value} {T : TypeId} (h : w.heap[B]? = some (.cells #[x0, x1, x2] T (0, 0))) :
    (w.cell? ⟨B, 0, none⟩ = some x0 ∧ w.cell? ⟨B, 1, none⟩ = some x1 ∧ w.cell? ⟨B, 2, none⟩ = some x2) ∧ w.frozen? ⟨B, 0, none⟩ = false ∧ w.frozen? ⟨B, 1, none⟩ = false ∧ w.frozen? ⟨B, 2, none⟩ = false :=
  ⟨⟨by rw [cell_of_row _ _ 0 _ _ _ h]; rfl, by rw [cell_of_row _ _ 1 _ _ _ h]; rfl, by rw [cell_of_row _ _ 2 _ _ _ h]; rfl⟩, frozen_of_row _ _ 0 _ _ h, frozen_of_row _ _ 1 _ _ h, frozen_of_row _ _ 2 _ _ h⟩
/-- What find answers. -/
def fndX (r : Option Bool) (i d : Int) : Int × Int × Bool × Bool := match r with | some f => (i, d, f, true) | none => (0, 0, false, false)
theorem ret_fnd {a b : Int} {c q : Bool} {r : Int × Int × Bool × Bool} (h : r = (a, b, c, q)) : Ending.returned (.tuple #[.agg #[.int .i64 a, .int .i64 b, .bool c], .bool q]) = .returned (.tuple #[.agg #[.int .i64 r.1, .int .i64 r.2.1, .bool r.2.2.1], .bool r.2.2.2]) := by rw [h]
set_option maxRecDepth 100000 in
set_option maxHeartbeats 4000000 in
theorem find_any (v : Value) (l : List Ex) (i d : Int) (hl : l.length ≤ 9223372036854775807) (w : World) (h : LstX w v l) : Calls Try.prog 36 #[v, .agg #[.int .i64 i, .int .i64 d]] w fun e w' => e = .returned (.tuple #[.agg #[.int .i64 (fndX (addF i d l) i d).1, .int .i64 (fndX (addF i d l) i d).2.1, .bool (fndX (addF i d l) i d).2.2.1], .bool ((fndX (addF i d l) i d).2.2.2)]) ∧ Below w.heap.size w w' := by
  obtain ⟨w1, h1⟩ : ∃ W, w.alloc (.cells #[.int .i64 i, .int .i64 d] 64 (0, 0)) = W := ⟨_, rfl⟩
  obtain ⟨b1, p0, p1, z1⟩ := box_pl h1
  obtain ⟨w2, h2⟩ : ∃ W, w1.alloc (.cells #[.int .i64 0, .int .i64 0, .bool false] 53 (0, 0)) = W := ⟨_, rfl⟩
  obtain ⟨b2, q0, q1, q2, z2⟩ := box_ex h2
  obtain ⟨w3, h3⟩ : ∃ W, w2.alloc (.cells #[.int .i64 0, .int .i64 0, .bool false] 53 (0, 0)) = W := ⟨_, rfl⟩
  obtain ⟨b3, r0, r1, r2, z3⟩ := box_ex h3
  have hz1 : w.heap.size ≤ w1.heap.size := b1.size
  have hz2 : w.heap.size ≤ w2.heap.size := by omega
  have b02 := b1.trans (b2.mono b1.size)
  have B3 := Lib.hid (b02.trans (b3.mono b02.size))
  have B13 := b2.trans (b3.mono b2.size)
  have p0 := (B13.cell (p := ⟨w.heap.size, 0, none⟩) z1).trans p0
  have p1 := (B13.cell (p := ⟨w.heap.size, 1, none⟩) z1).trans p1
  have q0 := (b3.cell (p := ⟨w1.heap.size, 0, none⟩) z2).trans q0
  have q1 := (b3.cell (p := ⟨w1.heap.size, 1, none⟩) z2).trans q1
  have q2 := (b3.cell (p := ⟨w1.heap.size, 2, none⟩) z2).trans q2
  have P := Lib.hid (fun W (b : Below w3.heap.size w3 W) => And.intro ((b.cell (p := ⟨w.heap.size, 0, none⟩) (by show w.heap.size < _; omega)).trans p0) ((b.cell (p := ⟨w.heap.size, 1, none⟩) (by show w.heap.size < _; omega)).trans p1))
  have hw2 : w3.heap[w1.heap.size]? = some (.cells #[.int .i64 0, .int .i64 0, .bool false] 53 (0, 0)) := by rw [b3.block _ z2, ← h2]; exact heap_alloc_new _ _
  have hw3 : w3.heap[w2.heap.size]? = some (.cells #[.int .i64 0, .int .i64 0, .bool false] 53 (0, 0)) := by rw [← h3]; exact heap_alloc_new _ _
  have Q := Lib.hid (fun W (b : Below w3.heap.size w3 W) => (b.block w1.heap.size (by omega)).trans hw2)
  have R := Lib.hid (fun W (b : Below w3.heap.size w3 W) => (b.block w2.heap.size (by omega)).trans hw3)
  have H3 := Lib.hid (h.below B3.out)
  have hz3 : w.heap.size ≤ w3.heap.size := B3.out.size
  clear b1 b2 b3 b02 B13 p0 p1 q0 q1 q2 r0 r1 r2 hw2 hw3
  obtain ⟨q, hq⟩ : ∃ q, addF i d l = q := ⟨_, rfl⟩
  rw [hq]
  have HQ := Lib.hid hq
  have ST := Lib.hid (hq.symm.trans (addF_start i d l))
  clear hq h
  obtain ⟨A, c, rfl, -, -, -⟩ := H3.out
  go_enter Try.func36, Try.ntmps36
  go_wp2_with fail
  go_step3
  go_wp2_with fail
  go_step3
  go_wp2_with fail
  go_loopw [12, 7] (fun i' f' wr => f' = .bool false ∧ ∃ k : Nat, i' = .int .i64 k ∧ k ≤ l.length ∧ Hid (q = addF i d (l.drop k)) ∧ Hid (Below w3.heap.size w3 wr)) (fun i' _ _ => l.length - (intOf i').toNat)
  case atStart => exact ⟨rfl, 0, rfl, Nat.zero_le _, ST, Lib.hid (Below.refl _ _)⟩
  case round =>
    clear ST
    obtain ⟨rfl, k, rfl, hk, hz, HB⟩ := hrel
    have hb := HB.out.size
    by_cases hlt : k < l.length
    · obtain ⟨⟨ki, di, fi⟩, hx⟩ := at_lt hlt
      obtain ⟨b, o, rfl, hbl, m0, m1, m2⟩ := three_at (H3.out.below HB.out) hx
      have gk : (k : Int) < (l.length : Int) := by omega
      obtain ⟨w7, hw7⟩ : ∃ W, wr.alloc (.cells #[.int .i64 ki, .int .i64 di, .bool fi] 53 (0, 0)) = W := ⟨_, rfl⟩
      obtain ⟨b7, t0, t1, t2, z7⟩ := box_ex hw7
      have B7 := Lib.hid (HB.out.trans (b7.mono HB.out.size))
      obtain ⟨u0, u1⟩ := P.out w7 B7.out
      have PL := Lib.hid (fun d' os => Calls.regrown_of (w := w7) (d := d') (os := os) (place_any ki di fi _))
      have T0 := fun d' os => cell_regrown t0 d' os
      have T1 := fun d' os => cell_regrown t1 d' os
      have T2 := fun d' os => cell_regrown t2 d' os
      have U0 := fun d' os => cell_regrown u0 d' os
      have U1 := fun d' os => cell_regrown u1 d' os
      by_cases e : ki = i ∧ di = d
      · have EQ := eql_pl ki di i d true (decide_eq_true e)
        have F : Hid (q = some fi) := addF_hit hz.out hx e.1 e.2
        obtain ⟨rfl, rfl⟩ := e
        clear hz hx hk hbl HB b7 u0 u1
        go_wp2_with fail
        refine wp_region_quiet_below (by kernel_rfl) (by kernel_rfl) ?_
        repeat (go_big_quiet_step (with_reducible exact PL.out _ _))
        refine wpQuiet_nil ?_
        intro w4 hw4
        have b74 := regrown_below (Below.refl w7.heap.size w7) hw4
        have B4 := Lib.hid (B7.out.trans (b74.mono B7.out.size))
        have x0 := (b74.cell (p := ⟨wr.heap.size, 0, none⟩) z7).trans t0
        have x1 := (b74.cell (p := ⟨wr.heap.size, 1, none⟩) z7).trans t1
        have x2 := (b74.cell (p := ⟨wr.heap.size, 2, none⟩) z7).trans t2
        obtain ⟨w5, hw5⟩ : ∃ W, ((w4.setCell ⟨w2.heap.size, 0, none⟩ (.int .i64 ki)).setCell ⟨w2.heap.size, 1, none⟩ (.int .i64 di)).setCell ⟨w2.heap.size, 2, none⟩ (.bool fi) = W := ⟨_, rfl⟩
        have r4 := R.out w4 B4.out
        obtain ⟨h5, o5, s5, g5⟩ := store_three r4 hw5
        obtain ⟨⟨y0, y1, y2⟩, f0, f1, f2⟩ := three_cells r4
        obtain ⟨⟨a0, a1, a2⟩, -⟩ := three_cells h5
        obtain ⟨⟨c0, c1, c2⟩, k0, k1, k2⟩ := three_cells ((o5 w1.heap.size (by omega)).trans (Q.out w4 B4.out))
        have B5 : Hid (Below w.heap.size w w5) := g5 _ _ hz2 (B3.out.trans (B4.out.mono hz3))
        clear hw4 b74 r4 h5 o5 g5 t0 t1 t2 T0 T1 T2 U0 U1 PL EQ
        go_wp2_with fail
        rw [Exit.noGoto_ret]
        exact bodyPost_ret (v := .tuple #[.agg #[.int .i64 ki, .int .i64 di, .bool fi], .bool true]) (by simp [results, Try.results36, go_sem, c0, c1, c2]) rfl ⟨ret_fnd (by rw [F.out]; rfl), ((B5.out.setCell (p := ⟨w1.heap.size, 0, none⟩) hz1 _).setCell (p := ⟨w1.heap.size, 1, none⟩) hz1 _).setCell (p := ⟨w1.heap.size, 2, none⟩) hz1 _⟩
      · have EQ := eql_pl ki di i d false (decide_eq_false e)
        have N : Hid (q = addF i d (l.drop (k + 1))) := addF_miss hz.out hx e
        clear hz hx hbl HB b7 u0 u1 e
        go_wp2_with fail
        refine wp_region_quiet_below (by kernel_rfl) (by kernel_rfl) ?_
        repeat (go_big_quiet_step (with_reducible exact PL.out _ _))
        refine wpQuiet_nil ?_
        intro w4 hw4
        have B4 := Lib.hid (regrown_below B7.out hw4)
        clear hw4 t0 t1 t2 T0 T1 T2 U0 U1 PL EQ
        go_wp2_with fail
        go_roundw
        case rel => exact ⟨rfl, k + 1, by go_num, by omega, N, B4⟩
        case measure => simp [intOf]; omega
    · have F := Lib.hid (addF_done hz.out (by omega))
      have dk : decide (k < l.length) = false := by rw [decide_eq_false_iff_not]; exact hlt
      obtain ⟨⟨a0, a1, a2⟩, -⟩ := three_cells (R.out wr HB.out)
      obtain ⟨⟨c0, c1, c2⟩, k0, k1, k2⟩ := three_cells (Q.out wr HB.out)
      have B5 : Hid (Below w.heap.size w wr) := B3.out.trans (HB.out.mono hz3)
      clear hz hlt
      go_wp2_with fail
      rw [Exit.noGoto_ret]
      exact bodyPost_ret (v := .tuple #[.agg #[.int .i64 0, .int .i64 0, .bool false], .bool false]) (by simp [results, Try.results36, go_sem, c0, c1, c2]) rfl ⟨ret_fnd (by rw [F.out]; rfl), ((B5.out.setCell (p := ⟨w1.heap.size, 0, none⟩) hz1 _).setCell (p := ⟨w1.heap.size, 1, none⟩) hz1 _).setCell (p := ⟨w1.heap.size, 2, none⟩) hz1 _⟩
set_option maxRecDepth 100000 in
set_option maxHeartbeats 4000000 in
theorem own_any (v : Value) (l : List Ex) (i : Int) (hl : l.length ≤ 1000000) (w : World) (h : LstX w v l) :
    Calls Try.prog 39 #[v, .int .i64 i] w fun e w' => ∃ u, e = .returned u ∧ OwnX w' w.heap.size u (ownX i l) ∧ Below w.heap.size w w' := by
  have H := Lib.hid h
  obtain ⟨A, c, rfl, -, -, -⟩ := h
  go_enter Try.func39, Try.ntmps39
  go_wp2_with fail
  go_loopw [10, 5] (fun i' u wr => ∃ k : Nat, i' = .int .i64 k ∧ k ≤ l.length ∧ Hid (OwnX wr w.heap.size u (ownX i (l.take k))) ∧ Hid (Below w.heap.size w wr)) (fun i' _ _ => l.length - (intOf i').toNat)
  case atStart => exact ⟨0, rfl, Nat.zero_le _, Lib.hid (OwnG.nil _ _ _ _ _), Lib.hid (Below.refl _ _)⟩
  case round =>
    obtain ⟨k, rfl, hk, HO, HB⟩ := hrel
    have hb := HB.out.size
    by_cases hlt : k < l.length
    · obtain ⟨⟨ki, di, fi⟩, hx⟩ := at_lt hlt
      obtain ⟨b, o, rfl, hbl, m0, m1, m2⟩ := three_at (H.out.below HB.out) hx
      have gk : (k : Int) < (l.length : Int) := by omega
      obtain ⟨w7, hw7⟩ : ∃ W, wr.alloc (.cells #[.int .i64 ki, .int .i64 di, .bool fi] 53 (0, 0)) = W := ⟨_, rfl⟩
      obtain ⟨b7, t0, t1, t2, z7⟩ := box_ex hw7
      have B7 := Lib.hid (HB.out.trans (b7.mono HB.out.size))
      have O7 := Lib.hid (HO.out.below b7)
      have hz7 : w.heap.size ≤ w7.heap.size := B7.out.size
      have hlen : (ownX i (l.take k)).length ≤ 1000000 := Nat.le_trans (ownX_len _ _) (by rw [List.length_take]; omega)
      by_cases e : ki = i
      · have eq := beq_true e
        have N := Lib.hid (ownX_hit hx e)
        clear hx hbl HB HO b7 e
        go_wp2_with (at_builtin; refine appG_one xe_len xe_one (by decide) Try.underlying30 info_ex rfl (by decide) _ rfl (.tmp 18) (.tmp 20) rfl w.heap.size _ (ownX i (l.take k)) (ki, di, fi) rfl (World.ownsRow.alloc O7.out _) w7.heap.size _ (heap_alloc_new _ _) rfl rfl (by simp; omega) (by omega) ?_; intro u2 w8 own8 b8 _ _)
        have B8 := Lib.hid ((B7.out.alloc hz7 _).trans b8)
        have O8 := Lib.hid own8
        rw [← N.out] at O8
        clear own8 b8
        go_wp2_with fail
        go_roundw
        case rel => exact ⟨k + 1, by go_num, by omega, O8, B8⟩
        case measure => simp [intOf]; omega
      · have eq := beq_false e
        have N := Lib.hid (ownX_miss hx e)
        rw [← N.out] at O7
        clear hx hbl HB HO b7 e
        go_wp2_with fail
        go_roundw
        case rel => exact ⟨k + 1, by go_num, by omega, O7, B7⟩
        case measure => simp [intOf]; omega
    · have dk : decide (k < l.length) = false := by rw [decide_eq_false_iff_not]; exact hlt
      have O := Lib.hid HO.out
      rw [List.take_of_length_le (by omega)] at O
      clear hlt HO
      go_wp2_with fail
      go_ret
      exact ⟨_, rfl, O.out, HB.out⟩
end Go.Proofs.Ytlbockpaeacigaa
