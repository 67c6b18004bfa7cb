/-
  Normalize: what the call answers. Condition: lists of at most 1000000 spans.
-/
import Derived.Test.YtmlmdggfcdakhaaVSrt
import Derived.Test.YtmlmdggfcdakhaaVRef3
import Derived.BigRegion
namespace Go.Proofs.Ytmlmdggfcdakhaa
open Go.RowKit

theorem fold_next {r : List Sp} {k : Nat} {s : Sp} (h : r[k]? = some s) : foldN [] (r.take (k + 1)) = stepN (foldN [] (r.take k)) s := by
  rw [take_at r k s h]
  unfold foldN
  rw [List.foldl_append]
  rfl
set_option maxRecDepth 100000 in
set_option maxHeartbeats 8000000 in
theorem norm_any (v : Value) (l : List Sp) (hl : l.length ≤ 1000000) (w : World) (h : LstV w v l) :
    Calls Try.prog 17 #[v] w fun e w' => ∃ v', e = .returned v' ∧ LstV w' v' (nrmS l) ∧ Below w.heap.size w w' := by
  have C := Lib.hid (sorted_any v l hl w h)
  clear h
  go_enter Try.func17, Try.ntmps17
  go_wp2_with fail
  refine C.out.mono ?_
  rintro er w1 ⟨vr, r, rfl, hp, hs, l1, b1⟩
  have R := Lib.hid (fold_nrmS hp hs)
  have hrl : r.length ≤ 1000000 := by rw [hp.length_eq]; exact Nat.le_trans (vals_len l) hl
  have hh := l1
  obtain ⟨A, c, rfl, -⟩ := hh
  have L1 := Lib.hid l1
  have B1 := Lib.hid b1
  clear l1 b1 C hp hs
  go_wp2_with fail
  go_loopw [3, 10] (fun u i wr => ∃ k : Nat, i = .int .i64 (k : Int) ∧ k ≤ r.length ∧ Hid (OwnV wr w1.heap.size u (foldN [] (r.take k))) ∧ Hid (Below w1.heap.size w1 wr)) (fun _ i _ => r.length - (intOf i).toNat)
  case atStart => exact ⟨0, rfl, Nat.zero_le _, Lib.hid (OwnG.nil _ _ _ _ _), Lib.hid (Below.refl _ _)⟩
  case round =>
    obtain ⟨k, rfl, hk, HO, HB⟩ := hrel
    by_cases hlt : k < r.length
    · obtain ⟨s, hs⟩ := at_lt hlt
      obtain ⟨p, o, rfl, hp, m0, m1⟩ := sp_at (L1.out.below HB.out) hs
      have gk : (k : Int) < (r.length : Int) := by omega
      have N := Lib.hid (fold_next hs)
      have hz := HB.out.size
      have hfl : (foldN [] (r.take k)).length ≤ k := by have := foldN_len (r.take k) []; rw [List.length_take] at this; simp at this; omega
      generalize foldN [] (r.take k) = acc at HO N hfl
      obtain ⟨x, y⟩ := s
      clear hs
      rcases snoc_cases acc with rfl | ⟨a, t, rfl⟩
      · obtain ⟨A', c', rfl⟩ := own_nil_shape HO.out
        have E : Hid (foldN [] (r.take (k + 1)) = [(x, y)]) := N.out
        clear N
        go_wp2_with fail
        obtain ⟨t0, t1, bb⟩ := box_span (Below.refl (wr.alloc (.cells #[.int .i64 x, .int .i64 y] 27 (0, 0))).heap.size _)
        have O2 := Lib.hid (HO.out.below bb)
        have B2 := Lib.hid (HB.out.trans (bb.mono hz))
        have hw2 : wr.heap.size < (wr.alloc (.cells #[.int .i64 x, .int .i64 y] 27 (0, 0))).heap.size := by simp
        generalize wr.alloc (.cells #[.int .i64 x, .int .i64 y] 27 (0, 0)) = w2 at t0 t1 O2 B2 hw2 ⊢
        clear bb HO HB m0 m1
        go_quiet (fail)
        have bq := below_drewN (Below.refl w2.heap.size w2) nq
        have q0 := (bq.cell (p := ⟨wr.heap.size, 0, none⟩) hw2).trans t0
        have q1 := (bq.cell (p := ⟨wr.heap.size, 1, none⟩) hw2).trans t1
        have O3 := Lib.hid (O2.out.below bq)
        have B3 := Lib.hid (B2.out.trans (bq.mono B2.out.size))
        clear t0 t1 bq O2 B2
        generalize w2.drewN nq = w3 at q0 q1 O3 B3 ⊢
        go_wp2_with (at_builtin; refine appG_one sc_len sc_one (by decide) Try.underlying29 info_sp rfl (by decide) _ rfl (.tmp 29) (.tmp 31) rfl w1.heap.size _ ([]) (x, y) rfl (World.ownsRow.alloc O3.out _) w3.heap.size _ (heap_alloc_new _ _) rfl rfl (by have := B3.out.size; simp; omega) (by simp <;> (simp at hfl) <;> omega) ?_; intro v4 w4 own4 b4 gr4 wh4; have O4 := Lib.hid own4; have B4 := Lib.hid ((B3.out.alloc B3.out.size _).trans b4); clear own4 b4 gr4 wh4)
        have O5 : Hid (OwnV w4 w1.heap.size v4 (foldN [] (r.take (k + 1)))) := by
          show OwnV _ _ _ _
          rw [E.out]
          exact O4.out
        clear O3 O4 B3 E q0 q1
        go_wp2_with fail
        go_roundw
        case rel => exact ⟨k + 1, by go_num, by omega, O5, B4⟩
        case measure => simp [intOf]; omega
      · obtain ⟨g, c', rfl, g0, g1, x0, x1, x2⟩ := own_last HO.out
        have wn : IntKind.i64.wrap (a.length : Int) = (a.length : Int) := IntWalk.i64_in _ (by simp at hfl; omega)
        have an : decide ((a.length : Int) < 0) = false := decide_eq_false (by omega)
        by_cases ht : x > t.2
        · have E : Hid (foldN [] (r.take (k + 1)) = (a ++ [t]) ++ [(x, y)]) := by
            show _ = _
            rw [N.out, stepN_far _ _ _ ht]
          have hd : t.2 < x := ht
          clear N ht
          go_wp2_with fail
          obtain ⟨t0, t1, bb⟩ := box_span (Below.refl (wr.alloc (.cells #[.int .i64 x, .int .i64 y] 27 (0, 0))).heap.size _)
          have O2 := Lib.hid (HO.out.below bb)
          have B2 := Lib.hid (HB.out.trans (bb.mono hz))
          have hw2 : wr.heap.size < (wr.alloc (.cells #[.int .i64 x, .int .i64 y] 27 (0, 0))).heap.size := by simp
          have y1 := (bb.cell (p := ⟨g, a.length * 2 + 1, none⟩) g1).trans x1
          have y2 := (bb.frozen (p := ⟨g, a.length * 2 + 1, none⟩) g1).trans x2
          have gw := Nat.lt_of_lt_of_le g1 bb.size
          generalize wr.alloc (.cells #[.int .i64 x, .int .i64 y] 27 (0, 0)) = w2 at t0 t1 O2 B2 hw2 y1 y2 gw ⊢
          clear bb HO HB m0 m1 x0 x1 x2
          go_quiet (fail)
          have bq := below_drewN (Below.refl w2.heap.size w2) nq
          have q0 := (bq.cell (p := ⟨wr.heap.size, 0, none⟩) hw2).trans t0
          have q1 := (bq.cell (p := ⟨wr.heap.size, 1, none⟩) hw2).trans t1
          have O3 := Lib.hid (O2.out.below bq)
          have B3 := Lib.hid (B2.out.trans (bq.mono B2.out.size))
          have z1 := (bq.cell (p := ⟨g, a.length * 2 + 1, none⟩) gw).trans y1
          have z2 := (bq.frozen (p := ⟨g, a.length * 2 + 1, none⟩) gw).trans y2
          clear t0 t1 bq O2 B2 y1 y2 gw
          generalize w2.drewN nq = w3 at q0 q1 O3 B3 z1 z2 ⊢
          clear z1 z2 hd
          go_wp2_with (at_builtin; refine appG_one sc_len sc_one (by decide) Try.underlying29 info_sp rfl (by decide) _ rfl (.tmp 29) (.tmp 31) rfl w1.heap.size _ (a ++ [t]) (x, y) rfl (World.ownsRow.alloc O3.out _) w3.heap.size _ (heap_alloc_new _ _) rfl rfl (by have := B3.out.size; simp; omega) (by simp <;> (simp at hfl) <;> omega) ?_; intro v4 w4 own4 b4 gr4 wh4; have O4 := Lib.hid own4; have B4 := Lib.hid ((B3.out.alloc B3.out.size _).trans b4); clear own4 b4 gr4 wh4)
          have O5 : Hid (OwnV w4 w1.heap.size v4 (foldN [] (r.take (k + 1)))) := by
            show OwnV _ _ _ _
            rw [E.out]
            exact O4.out
          clear O3 O4 B3 E q0 q1
          go_wp2_with fail
          go_roundw
          case rel => exact ⟨k + 1, by go_num, by omega, O5, B4⟩
          case measure => simp [intOf]; omega
        · have E : Hid (foldN [] (r.take (k + 1)) = a ++ [(t.1, max t.2 y)]) := by
            show _ = _
            rw [N.out, stepN_near _ _ _ ht]
          have hd : decide (t.2 < x) = false := decide_eq_false ht
          clear N ht
          go_wp2_with fail
          obtain ⟨t0, t1, bb⟩ := box_span (Below.refl (wr.alloc (.cells #[.int .i64 x, .int .i64 y] 27 (0, 0))).heap.size _)
          have O2 := Lib.hid (HO.out.below bb)
          have B2 := Lib.hid (HB.out.trans (bb.mono hz))
          have hw2 : wr.heap.size < (wr.alloc (.cells #[.int .i64 x, .int .i64 y] 27 (0, 0))).heap.size := by simp
          have y1 := (bb.cell (p := ⟨g, a.length * 2 + 1, none⟩) g1).trans x1
          have y2 := (bb.frozen (p := ⟨g, a.length * 2 + 1, none⟩) g1).trans x2
          have gw := Nat.lt_of_lt_of_le g1 bb.size
          generalize wr.alloc (.cells #[.int .i64 x, .int .i64 y] 27 (0, 0)) = w2 at t0 t1 O2 B2 hw2 y1 y2 gw ⊢
          clear bb HO HB m0 m1 x0 x1 x2
          go_quiet (fail)
          have bq := below_drewN (Below.refl w2.heap.size w2) nq
          have q0 := (bq.cell (p := ⟨wr.heap.size, 0, none⟩) hw2).trans t0
          have q1 := (bq.cell (p := ⟨wr.heap.size, 1, none⟩) hw2).trans t1
          have O3 := Lib.hid (O2.out.below bq)
          have B3 := Lib.hid (B2.out.trans (bq.mono B2.out.size))
          have z1 := (bq.cell (p := ⟨g, a.length * 2 + 1, none⟩) gw).trans y1
          have z2 := (bq.frozen (p := ⟨g, a.length * 2 + 1, none⟩) gw).trans y2
          clear t0 t1 bq O2 B2 y1 y2 gw
          generalize w2.drewN nq = w3 at q0 q1 O3 B3 z1 z2 ⊢
          clear hd
          have O4 := Lib.hid (put_end O3.out (max t.2 y))
          have B4 := Lib.hid (B3.out.setCell (p := ⟨g, a.length * 2 + 1, none⟩) g0 (.int .i64 (max t.2 y)))
          go_wp2_with fail
          go_region
          have O5 : Hid (OwnV ((w3.setCell ⟨g, a.length * 2 + 1, none⟩ (.int .i64 (max t.2 y))).drew) w1.heap.size (.slice (some ⟨g, 0, none⟩) (a.length + 1) c') (foldN [] (r.take (k + 1)))) := by
            show OwnV _ _ _ _
            rw [E.out]
            exact O4.out.below (Below.refl _ _).drew
          have B5 : Hid (Below w1.heap.size w1 ((w3.setCell ⟨g, a.length * 2 + 1, none⟩ (.int .i64 (max t.2 y))).drew)) := B4.out.drew
          clear O3 O4 B3 B4 E q0 q1 z1 z2
          generalize (w3.setCell ⟨g, a.length * 2 + 1, none⟩ (.int .i64 (max t.2 y))).drew = w4 at O5 B5 ⊢
          go_wp2_with fail
          go_roundw
          case rel => exact ⟨k + 1, by go_num, by omega, O5, B5⟩
          case measure => simp [intOf]; omega
    · have d : decide (k < r.length) = false := by rw [decide_eq_false_iff_not]; exact hlt
      have O : Hid (LstV wr u3 (nrmS l)) := by
        have := HO.out
        rw [List.take_of_length_le (by omega), R.out] at this
        exact OwnG.lst this
      have BB : Hid (Below w.heap.size w wr) := B1.out.trans (HB.out.mono B1.out.size)
      clear hlt HO HB
      go_wp2_with fail
      go_ret
      exact ⟨_, rfl, O.out, BB.out⟩
end Go.Proofs.Ytmlmdggfcdakhaa
