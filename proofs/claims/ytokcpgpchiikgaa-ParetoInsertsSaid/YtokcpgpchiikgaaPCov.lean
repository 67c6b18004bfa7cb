/-
  Covers, the reference's Covers and dominated, Within. Condition: lists of at most 1000000 vectors.
-/
import Derived.Test.YtokcpgpchiikgaaPCmp
import Derived.Lib.QuietBelow
namespace Go.Proofs.Ytokcpgpchiikgaa
open Go.RowKit Go.Sort

theorem cov_next {l : List Vec} {k : Nat} {y x : Vec} (h : l[k]? = some y) (hk : cov (l.take k) x = false) : (wi y x = true → cov l x = true) ∧ (wi y x = false → cov (l.take (k + 1)) x = false) := by
  constructor
  · intro hw
    exact (cov_iff l x).2 ⟨y, List.mem_iff_getElem?.2 ⟨k, h⟩, hw⟩
  · intro hw
    rw [take_at l k y h]
    unfold cov at *
    rw [List.any_append, hk]
    simp [hw]
theorem dmd_next {l : List Vec} {k : Nat} {y x : Vec} (h : l[k]? = some y) (hk : dmd (l.take k) x = false) : (dom y x = true → dmd l x = true) ∧ (dom y x = false → dmd (l.take (k + 1)) x = false) := by
  constructor
  · intro hw
    exact (dmd_iff l x).2 ⟨y, List.mem_iff_getElem?.2 ⟨k, h⟩, hw⟩
  · intro hw
    rw [take_at l k y h]
    unfold dmd at *
    rw [List.any_append, hk]
    simp [hw]
/-- A vector boxed. -/
theorem box_one (w : World) (a : Vec) (T : TypeId) : ∃ W : World, w.alloc (.cells #[.int .i64 a.1, .int .i64 a.2.1, .int .i64 a.2.2.1, .int .i64 a.2.2.2] T (0, 0)) = W ∧ W.heap.size = w.heap.size + 1 ∧ W.heap[w.heap.size]? = some (.cells #[.int .i64 a.1, .int .i64 a.2.1, .int .i64 a.2.2.1, .int .i64 a.2.2.2] T (0, 0)) ∧ RowKit.Below w.heap.size w W :=
  ⟨_, rfl, by simp, heap_alloc_new w _, (RowKit.Below.refl _ _).alloc (Nat.le_refl _) _⟩
/-- The four cells of a box. -/
theorem box_at {w : World} {B : Nat} {v : Vec} {T : TypeId} (h : w.heap[B]? = some (.cells #[.int .i64 v.1, .int .i64 v.2.1, .int .i64 v.2.2.1, .int .i64 v.2.2.2] T (0, 0))) :
    w.cell? ⟨B, 0, none⟩ = some (.int .i64 v.1) ∧ w.cell? ⟨B, 1, none⟩ = some (.int .i64 v.2.1) ∧ w.cell? ⟨B, 2, none⟩ = some (.int .i64 v.2.2.1) ∧ w.cell? ⟨B, 3, none⟩ = some (.int .i64 v.2.2.2) :=
  ⟨box_cp h (k := 0) (by omega), box_cp h (k := 1) (by omega), box_cp h (k := 2) (by omega), box_cp h (k := 3) (by omega)⟩
theorem gq_pv : Try.prog.eqGuardType Try.prog.depth 23 = false := by kernel_rfl
theorem gq_rv : Try.prog.eqGuardType Try.prog.depth 26 = false := by kernel_rfl
theorem eql_is {T : TypeId} (hT : Try.prog.underlying T = some (.array 4 3)) {a b : Vec} {q : Bool} (h : decide (a = b) = q) (W : World) : (binOp .eql T (.agg #[.int .i64 a.1, .int .i64 a.2.1, .int .i64 a.2.2.1, .int .i64 a.2.2.2]) (.agg #[.int .i64 b.1, .int .i64 b.2.1, .int .i64 b.2.2.1, .int .i64 b.2.2.2])).run Try.prog W = .ok (.bool q) W := by rw [eql_run hT, h]
theorem neq_is {T : TypeId} (hT : Try.prog.underlying T = some (.array 4 3)) {a b : Vec} {q : Bool} (h : (!decide (a = b)) = q) (W : World) : (binOp .neq T (.agg #[.int .i64 a.1, .int .i64 a.2.1, .int .i64 a.2.2.1, .int .i64 a.2.2.2]) (.agg #[.int .i64 b.1, .int .i64 b.2.1, .int .i64 b.2.2.1, .int .i64 b.2.2.2])).run Try.prog W = .ok (.bool q) W := by rw [neq_run hT, h]
set_option maxRecDepth 100000 in
set_option maxHeartbeats 4000000 in
theorem covers_any (v : Value) (l : List Vec) (x : Vec) (hl : l.length ≤ 1000000) (w : World) (h : LstV w v l) : Calls Try.prog 23 #[v, .agg #[.int .i64 x.1, .int .i64 x.2.1, .int .i64 x.2.2.1, .int .i64 x.2.2.2]] w fun e w' => e = .returned (.bool (cov l x)) ∧ Below w.heap.size w w' := by
  have hh := h
  obtain ⟨A, c, rfl, -⟩ := hh
  obtain ⟨w0, hw0, hs, rx, b0⟩ := box_one w x 23
  have hz := b0.size
  have B0 := Lib.hid b0
  have H := Lib.hid (h.below b0)
  have RX := Lib.hid rx
  clear b0 rx h
  have gq := gq_pv
  go_enter Try.func23, Try.ntmps23
  go_wp2_with fail
  go_step3
  go_wp2_with fail
  go_step3
  go_wp2_with fail
  clear hw0
  go_loopw [5, 10] (fun u i wr => ∃ k : Nat, i = .int .i64 (k : Int) ∧ u = .bool false ∧ k ≤ l.length ∧ Hid (cov (l.take k) x = false) ∧ Hid (Below w0.heap.size w0 wr)) (fun _ i _ => l.length - (intOf i).toNat)
  case atStart => exact ⟨0, rfl, rfl, Nat.zero_le _, Lib.hid rfl, Lib.hid (Below.refl _ _)⟩
  case round =>
    obtain ⟨k, rfl, rfl, hk, HC, HB⟩ := hrel
    by_cases hlt : k < l.length
    · obtain ⟨y, hy⟩ := at_lt hlt
      obtain ⟨b, o, rfl, hb, m0, m1, m2, m3⟩ := v_at (H.out.below HB.out) hy
      have gk : (k : Int) < (l.length : Int) := by omega
      have CN := Lib.hid (cov_next hy HC.out)
      rw [wi_cases] at CN
      obtain ⟨w1, hw1, hs1, ry, b1⟩ := box_one wr y 23
      have hwr := HB.out.size
      obtain ⟨n0, n1, n2, n3⟩ := box_at ry
      obtain ⟨p0, p1, p2, p3⟩ := box_at ((b1.block w.heap.size (by omega)).trans ((HB.out.block w.heap.size (by omega)).trans RX.out))
      have B1 := Lib.hid (HB.out.trans (b1.mono hwr))
      clear hy ry b1 HB HC
      by_cases e : y = x
      · have EQ := eql_is Try.underlying23 (decide_eq_true e)
        have N : Hid (cov l x = true) := CN.out.1 (by rw [e]; simp)
        clear e CN
        go_wp2_with fail
        rw [Exit.noGoto_ret]
        go_ret
        exact ⟨ret_bool N.out.symm, B0.out.trans (B1.out.mono hz)⟩
      · have EQ := eql_is Try.underlying23 (decide_eq_false e)
        have eb : (y == x) = false := by simpa using e
        rw [eb, Bool.false_or] at CN
        have D := Lib.hid (dom_any y x w1)
        generalize dom y x = q at CN D
        clear e eb
        cases q
        · have N : Hid (cov (l.take (k + 1)) x = false) := CN.out.2 rfl
          clear CN
          go_wp2_with fail
          refine D.out.mono ?_
          rintro e w2 ⟨rfl, b2⟩
          have B2 := Lib.hid (B1.out.trans (b2.mono B1.out.size))
          clear b2 D B1
          go_wp2_with fail
          go_roundw
          case rel => exact ⟨k + 1, by go_num, rfl, by omega, N, B2⟩
          case measure => simp [intOf]; omega
        · have N : Hid (cov l x = true) := CN.out.1 rfl
          clear CN
          go_wp2_with fail
          refine D.out.mono ?_
          rintro e w2 ⟨rfl, b2⟩
          have B2 := Lib.hid (B1.out.trans (b2.mono B1.out.size))
          clear b2 D B1
          go_wp2_with fail
          rw [Exit.noGoto_ret]
          go_ret
          exact ⟨ret_bool N.out.symm, B0.out.trans (B2.out.mono hz)⟩
    · have d : decide (k < l.length) = false := by rw [decide_eq_false_iff_not]; exact hlt
      have N : Hid (cov l x = false) := by
        have := HC.out
        rw [List.take_of_length_le (by omega)] at this
        exact this
      clear hlt HC
      go_wp2_with fail
      rw [Exit.noGoto_ret]
      go_ret
      exact ⟨ret_bool N.out.symm, B0.out.trans (HB.out.mono hz)⟩
theorem regrown_below {w0 wr w4 : World} (h : RowKit.Below w0.heap.size w0 wr) (h4 : ∃ p : Regrown, w4 = grow (redrawn wr p.d) p.os) : RowKit.Below w0.heap.size w0 w4 := by
  obtain ⟨p, rfl⟩ := h4
  exact h.trans ((below_regrown wr p.d p.os).mono h.size)
set_option maxRecDepth 100000 in
set_option maxHeartbeats 4000000 in
theorem rcov_any (v : Value) (l : List Vec) (x : Vec) (hl : l.length ≤ 1000000) (w : World) (h : LstV w v l) : Calls Try.prog 24 #[v, .agg #[.int .i64 x.1, .int .i64 x.2.1, .int .i64 x.2.2.1, .int .i64 x.2.2.2]] w fun e w' => e = .returned (.bool (cov l x)) ∧ Below w.heap.size w w' := by
  have hh := h
  obtain ⟨A, c, rfl, -⟩ := hh
  obtain ⟨w0, hw0, hs, rx, b0⟩ := box_one w x 26
  have hz := b0.size
  have B0 := Lib.hid b0
  have H := Lib.hid (h.below b0)
  have RX := Lib.hid rx
  clear b0 rx h
  have gq := gq_rv
  go_enter Try.func24, Try.ntmps24
  go_wp2_with fail
  clear hw0
  go_loopw [5] (fun i wr => ∃ k : Nat, i = .int .i64 (k : Int) ∧ k ≤ l.length ∧ Hid (cov (l.take k) x = false) ∧ Hid (Below w0.heap.size w0 wr)) (fun i _ => l.length - (intOf i).toNat)
  case atStart => exact ⟨0, rfl, Nat.zero_le _, Lib.hid rfl, Lib.hid (Below.refl _ _)⟩
  case round =>
    obtain ⟨k, rfl, hk, HC, HB⟩ := hrel
    by_cases hlt : k < l.length
    · obtain ⟨y, hy⟩ := at_lt hlt
      obtain ⟨b, o, rfl, hb, m0, m1, m2, m3⟩ := v_at (H.out.below HB.out) hy
      have gk : (k : Int) < (l.length : Int) := by omega
      have CN := Lib.hid (cov_next hy HC.out)
      rw [wi_cases] at CN
      obtain ⟨p0, p1, p2, p3⟩ := box_at ((HB.out.block w.heap.size (by omega)).trans RX.out)
      have M0 := fun d os => cell_regrown m0 d os
      have M1 := fun d os => cell_regrown m1 d os
      have M2 := fun d os => cell_regrown m2 d os
      have M3 := fun d os => cell_regrown m3 d os
      have P0 := fun d os => cell_regrown p0 d os
      have P1 := fun d os => cell_regrown p1 d os
      have P2 := fun d os => cell_regrown p2 d os
      have P3 := fun d os => cell_regrown p3 d os
      clear hy HC m0 m1 m2 m3 p0 p1 p2 p3
      by_cases e : y = x
      · have EQ := eql_is Try.underlying26 (decide_eq_true e)
        have N : Hid (cov l x = true) := CN.out.1 (by rw [e]; simp)
        clear e CN
        go_wp2_with fail
        refine wp_region_quiet_below (by kernel_rfl) (by kernel_rfl) ?_
        repeat (go_big_quiet_step (fail))
        refine wpQuiet_nil ?_
        intro w4 hw4
        have B4 := Lib.hid (regrown_below HB.out hw4)
        clear hw4 HB M0 M1 M2 M3 P0 P1 P2 P3
        go_wp2_with fail
        go_ret
        exact ⟨ret_bool N.out.symm, B0.out.trans (B4.out.mono hz)⟩
      · have EQ := eql_is Try.underlying26 (decide_eq_false e)
        have eb : (y == x) = false := by simpa using e
        rw [eb, Bool.false_or] at CN
        have D := Lib.hid (fun d os => Calls.regrown_of (w := wr) (d := d) (os := os) (rdom_any y x _))
        generalize dom y x = q at CN D
        clear e eb
        cases q
        · have N : Hid (cov (l.take (k + 1)) x = false) := CN.out.2 rfl
          clear CN
          go_wp2_with fail
          refine wp_region_quiet_below (by kernel_rfl) (by kernel_rfl) ?_
          repeat (go_big_quiet_step (with_reducible exact D.out _ _))
          refine wpQuiet_nil ?_
          intro w4 hw4
          have B4 := Lib.hid (regrown_below HB.out hw4)
          clear hw4 HB M0 M1 M2 M3 P0 P1 P2 P3 D
          go_wp2_with fail
          go_roundw
          case rel => exact ⟨k + 1, by go_num, by omega, N, B4⟩
          case measure => simp [intOf]; omega
        · have N : Hid (cov l x = true) := CN.out.1 rfl
          clear CN
          go_wp2_with fail
          refine wp_region_quiet_below (by kernel_rfl) (by kernel_rfl) ?_
          repeat (go_big_quiet_step (with_reducible exact D.out _ _))
          refine wpQuiet_nil ?_
          intro w4 hw4
          have B4 := Lib.hid (regrown_below HB.out hw4)
          clear hw4 HB M0 M1 M2 M3 P0 P1 P2 P3 D
          go_wp2_with fail
          go_ret
          exact ⟨ret_bool N.out.symm, B0.out.trans (B4.out.mono hz)⟩
    · have d : decide (k < l.length) = false := by rw [decide_eq_false_iff_not]; exact hlt
      have N : Hid (cov l x = false) := by
        have := HC.out
        rw [List.take_of_length_le (by omega)] at this
        exact this
      clear hlt HC
      go_wp2_with fail
      go_ret
      exact ⟨ret_bool N.out.symm, B0.out.trans (HB.out.mono hz)⟩
set_option maxRecDepth 100000 in
set_option maxHeartbeats 4000000 in
theorem dmd_any (v : Value) (l : List Vec) (x : Vec) (hl : l.length ≤ 1000000) (w : World) (h : LstV w v l) : Calls Try.prog 34 #[v, .agg #[.int .i64 x.1, .int .i64 x.2.1, .int .i64 x.2.2.1, .int .i64 x.2.2.2]] w fun e w' => e = .returned (.bool (dmd l x)) ∧ Below w.heap.size w w' := by
  have hh := h
  obtain ⟨A, c, rfl, -⟩ := hh
  obtain ⟨w0, hw0, hs, rx, b0⟩ := box_one w x 26
  have hz := b0.size
  have B0 := Lib.hid b0
  have H := Lib.hid (h.below b0)
  have RX := Lib.hid rx
  clear b0 rx h
  go_enter Try.func34, Try.ntmps34
  go_wp2_with fail
  clear hw0
  go_loopw [5] (fun i wr => ∃ k : Nat, i = .int .i64 (k : Int) ∧ k ≤ l.length ∧ Hid (dmd (l.take k) x = false) ∧ Hid (Below w0.heap.size w0 wr)) (fun i _ => l.length - (intOf i).toNat)
  case atStart => exact ⟨0, rfl, Nat.zero_le _, Lib.hid rfl, Lib.hid (Below.refl _ _)⟩
  case round =>
    obtain ⟨k, rfl, hk, HC, HB⟩ := hrel
    by_cases hlt : k < l.length
    · obtain ⟨y, hy⟩ := at_lt hlt
      obtain ⟨b, o, rfl, hb, m0, m1, m2, m3⟩ := v_at (H.out.below HB.out) hy
      have gk : (k : Int) < (l.length : Int) := by omega
      have CN := Lib.hid (dmd_next hy HC.out)
      obtain ⟨p0, p1, p2, p3⟩ := box_at ((HB.out.block w.heap.size (by omega)).trans RX.out)
      have M0 := fun d os => cell_regrown m0 d os
      have M1 := fun d os => cell_regrown m1 d os
      have M2 := fun d os => cell_regrown m2 d os
      have M3 := fun d os => cell_regrown m3 d os
      have P0 := fun d os => cell_regrown p0 d os
      have P1 := fun d os => cell_regrown p1 d os
      have P2 := fun d os => cell_regrown p2 d os
      have P3 := fun d os => cell_regrown p3 d os
      clear hy HC m0 m1 m2 m3 p0 p1 p2 p3
      have D := Lib.hid (fun d os => Calls.regrown_of (w := wr) (d := d) (os := os) (rdom_any y x _))
      generalize dom y x = q at CN D
      cases q
      · have N : Hid (dmd (l.take (k + 1)) x = false) := CN.out.2 rfl
        clear CN
        go_wp2_with fail
        refine wp_region_quiet_below (by kernel_rfl) (by kernel_rfl) ?_
        repeat (go_big_quiet_step (with_reducible exact D.out _ _))
        refine wpQuiet_nil ?_
        intro w4 hw4
        have B4 := Lib.hid (regrown_below HB.out hw4)
        clear hw4 HB M0 M1 M2 M3 P0 P1 P2 P3 D
        go_wp2_with fail
        go_roundw
        case rel => exact ⟨k + 1, by go_num, by omega, N, B4⟩
        case measure => simp [intOf]; omega
      · have N : Hid (dmd l x = true) := CN.out.1 rfl
        clear CN
        go_wp2_with fail
        refine wp_region_quiet_below (by kernel_rfl) (by kernel_rfl) ?_
        repeat (go_big_quiet_step (with_reducible exact D.out _ _))
        refine wpQuiet_nil ?_
        intro w4 hw4
        have B4 := Lib.hid (regrown_below HB.out hw4)
        clear hw4 HB M0 M1 M2 M3 P0 P1 P2 P3 D
        go_wp2_with fail
        go_ret
        exact ⟨ret_bool N.out.symm, B0.out.trans (B4.out.mono hz)⟩
    · have d : decide (k < l.length) = false := by rw [decide_eq_false_iff_not]; exact hlt
      have N : Hid (dmd l x = false) := by
        have := HC.out
        rw [List.take_of_length_le (by omega)] at this
        exact this
      clear hlt HC
      go_wp2_with fail
      go_ret
      exact ⟨ret_bool N.out.symm, B0.out.trans (HB.out.mono hz)⟩
end Go.Proofs.Ytokcpgpchiikgaa
