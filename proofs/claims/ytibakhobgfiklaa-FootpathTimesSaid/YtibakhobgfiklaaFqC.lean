/-
  The laws' example and exampleHolds: what each call answers; nothing that existed before the call has changed behind it. Condition: none.
-/
import Derived.Test.YtibakhobgfiklaaFqB
namespace Go.Proofs.Ytibakhobgfiklaa
open Go.RowKit Go.Sort

def exF : List Fp := [(0, 1, 60, true), (1, 2, 60, false), (0, 2, 200, true)]
def waF : List Fp := [(0, 1, 60, true), (0, 2, 120, false), (0, 2, 200, true), (1, 2, 60, false)]
theorem ex_e : clsE 3 exF = 0 := by decide +kernel
theorem ex_l : clsL 3 exF = waF := by decide +kernel
theorem ex_t1 : tiF waF 0 2 false = some 120 := by decide +kernel
theorem ex_t2 : tiF waF 0 2 true = some 200 := by decide +kernel
theorem ex_t3 : tiF waF 2 0 false = none := by decide +kernel
theorem ex_c : chkP 2 exF = (1, 9) := by decide +kernel
theorem ex_a1 : arF waF 0 150 false = [1, 2] := by decide +kernel
theorem ex_a2 : arF waF 0 150 true = [1] := by decide +kernel
theorem ex_i1 : iscF 3 waF = true := by decide +kernel
theorem ex_i2 : iscF 3 exF = false := by decide +kernel
theorem ex_64 : L64 exF := by
  intro x hx
  simp [exF] at hx
  rcases hx with rfl | rfl | rfl <;> (unfold Ky64 kyP Ix64; decide)
theorem wa_64 : L64 waF := by
  intro x hx
  simp [waF] at hx
  rcases hx with rfl | rfl | rfl | rfl <;> (unfold Ky64 kyP Ix64; decide)
set_option maxRecDepth 100000 in
theorem example_any (w : World) : Calls Try.prog 24 #[] w fun e w' => ∃ v', e = .returned v' ∧ LstF w' v' exF ∧ RowKit.Below w.heap.size w w' := by
  obtain ⟨w1, hw1⟩ : ∃ x, w.alloc (.cells #[.int .i64 0, .int .i64 1, .int .i64 60, .bool true, .int .i64 1, .int .i64 2, .int .i64 60, .bool false, .int .i64 0, .int .i64 2, .int .i64 200, .bool true] 42 (0, 0)) = x := ⟨_, rfl⟩
  have K : Hid (LstF w1 (.slice (some ⟨w.heap.size, 0, none⟩) 3 3) exF ∧ RowKit.Below w.heap.size w w1) := by
    rw [← hw1]
    exact Lib.hid ⟨lstG_lit w _ _ exF rfl 3 rfl, (RowKit.Below.refl _ _).alloc (Nat.le_refl _) _⟩
  go_enter Try.func24, Try.ntmps24
  go_wp2_with fail
  go_ret
  exact ⟨_, rfl, K.out⟩
set_option maxRecDepth 100000 in
set_option maxHeartbeats 4000000 in
theorem ex_any (w : World) : Calls Try.prog 11 #[] w fun e w' => e = .returned (.bool true) ∧ Below w.heap.size w w' := by
  have X0 := Lib.hid (example_any w)
  go_enter Try.func11, Try.ntmps11
  go_wp2_with fail
  refine X0.out.mono ?_
  rintro e w1 ⟨v1, rfl, l1, y1⟩
  have B1 := Lib.hid y1
  have C1 := Lib.hid (kclose_any v1 exF (by decide) 3 ex_64 w1 l1)
  rw [ex_e, ex_l] at C1
  clear X0 l1 y1
  go_wp2_with fail
  refine C1.out.mono ?_
  rintro e w2 ⟨v2, rfl, l2, y2, -⟩
  obtain ⟨A2, c2, rfl, -⟩ := _root_.id l2
  have L2 := Lib.hid l2
  have B2 := Lib.hid (B1.out.trans (y2.mono B1.out.size))
  clear C1 B1 l2 y2
  have C3 := Lib.hid (ktime_any (.slice A2 waF.length c2) waF (by decide) 0 2 false w2 L2.out)
  rw [ex_t1] at C3
  go_wp2_with fail
  refine C3.out.mono ?_
  rintro e w3 ⟨rfl, y3⟩
  have L3 := Lib.hid (L2.out.below y3)
  have B3 := Lib.hid (B2.out.trans (y3.mono B2.out.size))
  clear C3 L2 B2 y3
  have C4 := Lib.hid (ktime_any (.slice A2 waF.length c2) waF (by decide) 0 2 true w3 L3.out)
  rw [ex_t2] at C4
  go_wp2_with fail
  refine C4.out.mono ?_
  rintro e w4 ⟨rfl, y4⟩
  have L4 := Lib.hid (L3.out.below y4)
  have B4 := Lib.hid (B3.out.trans (y4.mono B3.out.size))
  clear C4 L3 B3 y4
  have C5 := Lib.hid (ktime_any (.slice A2 waF.length c2) waF (by decide) 2 0 false w4 L4.out)
  rw [ex_t3] at C5
  go_wp2_with fail
  refine C5.out.mono ?_
  rintro e w5 ⟨rfl, y5⟩
  have L5 := Lib.hid (L4.out.below y5)
  have B5 := Lib.hid (B4.out.trans (y5.mono B4.out.size))
  clear C5 L4 B4 y5
  have X6 := Lib.hid (example_any w5)
  go_wp2_with fail
  refine X6.out.mono ?_
  rintro e w6 ⟨v6, rfl, l6, y6⟩
  have L6 := Lib.hid (L5.out.below y6)
  have B6 := Lib.hid (B5.out.trans (y6.mono B5.out.size))
  clear X6 L5 B5
  have C7 := Lib.hid (kchk_any v6 exF (by decide) 2 ex_64 w6 l6)
  rw [ex_c] at C7
  clear l6 y6
  go_wp2_with fail
  refine C7.out.mono ?_
  rintro e w7 ⟨rfl, y7⟩
  have L7 := Lib.hid (L6.out.below y7)
  have B7 := Lib.hid (B6.out.trans (y7.mono B6.out.size))
  clear C7 L6 B6
  obtain ⟨w8, hw8⟩ : ∃ x, w7.alloc (.cells #[.int .i64 0, .int .i64 1, .int .i64 60, .bool true, .int .i64 0, .int .i64 2, .int .i64 120, .bool false, .int .i64 0, .int .i64 2, .int .i64 200, .bool true, .int .i64 1, .int .i64 2, .int .i64 60, .bool false] 42 (0, 0)) = x := ⟨_, rfl⟩
  have y8 : RowKit.Below w7.heap.size w7 w8 := by rw [← hw8]; exact (RowKit.Below.refl _ _).alloc (Nat.le_refl _) _
  have W8 : LstF w8 (.slice (some ⟨w7.heap.size, 0, none⟩) 4 4) waF := by rw [← hw8]; exact lstG_lit w7 _ _ waF rfl 4 rfl
  have L8 := Lib.hid (L7.out.below y8)
  have B8 := Lib.hid (B7.out.trans (y8.mono B7.out.size))
  have C9 := Lib.hid (same_fp (.slice A2 waF.length c2) (.slice (some ⟨w7.heap.size, 0, none⟩) 4 4) waF waF (by decide) w8 L8.out W8)
  rw [decide_eq_true (rfl : waF = waF)] at C9
  clear y7 L7 B7 W8 y8
  go_wp2_with fail
  refine C9.out.mono ?_
  rintro e w9 ⟨rfl, m9, hm9⟩
  have y9 : RowKit.Below w8.heap.size w8 w9 := by rw [hm9]; exact below_drewN (RowKit.Below.refl _ _) m9
  have L9 := Lib.hid (L8.out.below y9)
  have B9 := Lib.hid (B8.out.trans (y9.mono B8.out.size))
  clear C9 L8 B8 hw8 hm9
  have C10 := Lib.hid (karound_any (.slice A2 waF.length c2) waF (by decide) 0 150 false w9 L9.out)
  rw [ex_a1] at C10
  go_wp2_with fail
  refine C10.out.mono ?_
  rintro e w10 ⟨v10, rfl, l10, y10⟩
  have L10 := Lib.hid (L9.out.below y10)
  have B10 := Lib.hid (B9.out.trans (y10.mono B9.out.size))
  clear C10 L9 B9 y10
  obtain ⟨w11, hw11⟩ : ∃ x, w10.alloc (.cells #[.int .i64 1, .int .i64 2] 3 (0, 0)) = x := ⟨_, rfl⟩
  have y11 : RowKit.Below w10.heap.size w10 w11 := by rw [← hw11]; exact (RowKit.Below.refl _ _).alloc (Nat.le_refl _) _
  have K11 : LstI w11 (.slice (some ⟨w10.heap.size, 0, none⟩) 2 2) [1, 2] := by rw [← hw11]; exact lsti_lit w10 _ [1, 2] rfl 2 rfl
  have L11 := Lib.hid (L10.out.below y11)
  have B11 := Lib.hid (B10.out.trans (y11.mono B10.out.size))
  have C12 := Lib.hid (ints_law v10 (.slice (some ⟨w10.heap.size, 0, none⟩) 2 2) [1, 2] [1, 2] (by decide) w11 (l10.below y11) K11)
  rw [decide_eq_true (rfl : ([1, 2] : List Int) = [1, 2])] at C12
  have l10 := l10
  clear L10 B10 K11 y11 l10
  go_wp2_with fail
  refine C12.out.mono ?_
  rintro e w12 ⟨rfl, m12, hm12⟩
  have y12 : RowKit.Below w11.heap.size w11 w12 := by rw [hm12]; exact below_drewN (RowKit.Below.refl _ _) m12
  have L12 := Lib.hid (L11.out.below y12)
  have B12 := Lib.hid (B11.out.trans (y12.mono B11.out.size))
  clear C12 L11 B11 hw11 hm12 y12
  have C13 := Lib.hid (karound_any (.slice A2 waF.length c2) waF (by decide) 0 150 true w12 L12.out)
  rw [ex_a2] at C13
  go_wp2_with fail
  refine C13.out.mono ?_
  rintro e w13 ⟨v13, rfl, l13, y13⟩
  have L13 := Lib.hid (L12.out.below y13)
  have B13 := Lib.hid (B12.out.trans (y13.mono B12.out.size))
  clear C13 L12 B12 y13
  obtain ⟨w14, hw14⟩ : ∃ x, w13.alloc (.cells #[.int .i64 1] 3 (0, 0)) = x := ⟨_, rfl⟩
  have y14 : RowKit.Below w13.heap.size w13 w14 := by rw [← hw14]; exact (RowKit.Below.refl _ _).alloc (Nat.le_refl _) _
  have K14 : LstI w14 (.slice (some ⟨w13.heap.size, 0, none⟩) 1 1) [1] := by rw [← hw14]; exact lsti_lit w13 _ [1] rfl 1 rfl
  have L14 := Lib.hid (L13.out.below y14)
  have B14 := Lib.hid (B13.out.trans (y14.mono B13.out.size))
  have C15 := Lib.hid (ints_law v13 (.slice (some ⟨w13.heap.size, 0, none⟩) 1 1) [1] [1] (by decide) w14 (l13.below y14) K14)
  rw [decide_eq_true (rfl : ([1] : List Int) = [1])] at C15
  have l13 := l13
  clear L13 B13 K14 y14 l13
  go_wp2_with fail
  refine C15.out.mono ?_
  rintro e w15 ⟨rfl, m15, hm15⟩
  have y15 : RowKit.Below w14.heap.size w14 w15 := by rw [hm15]; exact below_drewN (RowKit.Below.refl _ _) m15
  have L15 := Lib.hid (L14.out.below y15)
  have B15 := Lib.hid (B14.out.trans (y15.mono B14.out.size))
  clear C15 L14 B14 hw14 hm15 y15
  have C16 := Lib.hid (kisc_any (.slice A2 waF.length c2) waF (by decide) 3 wa_64 w15 L15.out)
  rw [ex_i1] at C16
  go_wp2_with fail
  refine C16.out.mono ?_
  rintro e w16 ⟨rfl, y16⟩
  have L16 := Lib.hid (L15.out.below y16)
  have B16 := Lib.hid (B15.out.trans (y16.mono B15.out.size))
  clear C16 L15 B15 y16
  have X17 := Lib.hid (example_any w16)
  go_wp2_with fail
  refine X17.out.mono ?_
  rintro e w17 ⟨v17, rfl, l17, y17⟩
  have L17 := Lib.hid (L16.out.below y17)
  have B17 := Lib.hid (B16.out.trans (y17.mono B16.out.size))
  clear X17 L16 B16
  have C18 := Lib.hid (kisc_any v17 exF (by decide) 3 ex_64 w17 l17)
  rw [ex_i2] at C18
  clear l17 y17
  go_wp2_with fail
  refine C18.out.mono ?_
  rintro e w18 ⟨rfl, y18⟩
  have L18 := Lib.hid (L17.out.below y18)
  have B18 := Lib.hid (B17.out.trans (y18.mono B17.out.size))
  clear C18 L17 B17 y18 L18
  go_wp2_with fail
  go_ret
  exact ⟨rfl, B18.out⟩
end Go.Proofs.Ytibakhobgfiklaa
