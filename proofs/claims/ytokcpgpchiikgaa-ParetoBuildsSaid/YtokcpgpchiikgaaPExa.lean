/-
  The examples of the chapter. Condition: none.
-/
import Derived.Test.YtokcpgpchiikgaaPRef2
namespace Go.Proofs.Ytokcpgpchiikgaa
open Go.RowKit

theorem ex_f : frV [(2, 1, 0, 0), (1, 2, 0, 0), (2, 2, 0, 0), (1, 2, 0, 0)] = [(1, 2, 0, 0), (2, 1, 0, 0)] := by decide
theorem ex_i : frV ([(1, 2, 0, 0), (2, 1, 0, 0)] ++ [(1, 1, 0, 0)]) = [(1, 1, 0, 0)] := by decide
theorem ex_j : frV ([(1, 1, 0, 0)] ++ [(1, 1, 0, 0)]) = [(1, 1, 0, 0)] := by decide
theorem ex_c : (!cov [(1, 2, 0, 0), (2, 1, 0, 0)] (1, 1, 0, 0)) = true := by decide
theorem ex_d : (!cov [(1, 1, 0, 0)] (1, 1, 0, 0)) = false := by decide
theorem ex_front (v : Value) (w : World) (h : LstV w v [(2, 1, 0, 0), (1, 2, 0, 0), (2, 2, 0, 0), (1, 2, 0, 0)]) : Calls Try.prog 17 #[v] w fun e w' => ∃ v', e = .returned v' ∧ LstV w' v' [(1, 2, 0, 0), (2, 1, 0, 0)] ∧ Below w.heap.size w w' := by
  have h := front_any v _ (by decide) w h
  rw [ex_f] at h
  exact h
theorem ex_ins1 (v : Value) (w : World) (h : LstV w v [(1, 2, 0, 0), (2, 1, 0, 0)]) : Calls Try.prog 21 #[v, .agg #[.int .i64 1, .int .i64 1, .int .i64 0, .int .i64 0]] w fun e w' => ∃ v', e = .returned (.tuple #[v', .bool true]) ∧ LstV w' v' [(1, 1, 0, 0)] ∧ Below w.heap.size w w' := by
  have h := insert_any v _ (1, 1, 0, 0) (by decide) w h
  rw [ex_i, ex_c] at h
  exact h
theorem ex_ins2 (v : Value) (w : World) (h : LstV w v [(1, 1, 0, 0)]) : Calls Try.prog 21 #[v, .agg #[.int .i64 1, .int .i64 1, .int .i64 0, .int .i64 0]] w fun e w' => ∃ v', e = .returned (.tuple #[v', .bool false]) ∧ LstV w' v' [(1, 1, 0, 0)] ∧ Below w.heap.size w w' := by
  have h := insert_any v _ (1, 1, 0, 0) (by decide) w h
  rw [ex_j, ex_d] at h
  exact h
theorem ex_dom (w : World) : Calls Try.prog 9 #[.agg #[.int .i64 1, .int .i64 2, .int .i64 3, .int .i64 4], .agg #[.int .i64 1, .int .i64 2, .int .i64 3, .int .i64 5]] w fun e w' => e = .returned (.bool true) ∧ Below w.heap.size w w' := dom_any (1, 2, 3, 4) (1, 2, 3, 5) w
theorem ex_dom2 (w : World) : Calls Try.prog 9 #[.agg #[.int .i64 1, .int .i64 2, .int .i64 3, .int .i64 4], .agg #[.int .i64 1, .int .i64 2, .int .i64 3, .int .i64 4]] w fun e w' => e = .returned (.bool false) ∧ Below w.heap.size w w' := dom_any (1, 2, 3, 4) (1, 2, 3, 4) w
theorem ex_same (va vb : Value) (l : List Vec) (hl : l.length ≤ 1000000) (w : World) (hA : LstV w va l) (hB : LstV w vb l) : Calls Try.prog 15 #[va, vb] w fun e w' => e = .returned (.bool true) ∧ Below w.heap.size w w' := by
  have h := same_any va vb l l hl hl w hA hB
  rw [decide_eq_true rfl] at h
  exact h
set_option maxRecDepth 100000 in
set_option maxHeartbeats 8000000 in
theorem ex_any (w : World) : Calls Try.prog 13 #[] w fun e w' => e = .returned (.bool true) ∧ Below w.heap.size w w' := by
  obtain ⟨w0, hw0, hs, ra, rb, b0⟩ := box_two w (1, 2, 3, 4) (1, 2, 3, 5) 23
  have RA := Lib.hid ra
  have RB := Lib.hid rb
  have B0 := Lib.hid b0
  simp only at hw0
  have ls := lstG_lit (enc := vc) w0 #[.int .i64 2, .int .i64 1, .int .i64 0, .int .i64 0, .int .i64 1, .int .i64 2, .int .i64 0, .int .i64 0, .int .i64 2, .int .i64 2, .int .i64 0, .int .i64 0, .int .i64 1, .int .i64 2, .int .i64 0, .int .i64 0] 23 [(2, 1, 0, 0), (1, 2, 0, 0), (2, 2, 0, 0), (1, 2, 0, 0)] rfl 4 rfl
  obtain ⟨w1, hw1⟩ : ∃ W, w0.alloc (.cells #[.int .i64 2, .int .i64 1, .int .i64 0, .int .i64 0, .int .i64 1, .int .i64 2, .int .i64 0, .int .i64 0, .int .i64 2, .int .i64 2, .int .i64 0, .int .i64 0, .int .i64 1, .int .i64 2, .int .i64 0, .int .i64 0] 23 (0, 0)) = W := ⟨_, rfl⟩
  have bb : Below w0.heap.size w0 w1 := hw1 ▸ (Below.refl _ _).alloc (Nat.le_refl _) _
  rw [hw1] at ls
  have Ll := Lib.hid ls
  have BB := Lib.hid bb
  have HS := Lib.hid hs
  clear ra rb b0 ls bb hs
  go_enter Try.func13, Try.ntmps13
  go_wp2_with fail
  refine (ex_front _ w1 Ll.out).mono ?_
  rintro e w2 ⟨v_f, rfl, l_f, b2⟩
  have Lf := Lib.hid l_f
  have BB := Lib.hid (BB.out.trans (b2.mono BB.out.size))
  clear l_f b2 Ll
  go_wp2_with fail
  refine (ex_ins1 _ w2 Lf.out).mono ?_
  rintro e w3 ⟨v_m, rfl, l_m, b3⟩
  have Lf := Lib.hid (Lf.out.below b3)
  have Lm := Lib.hid l_m
  have BB := Lib.hid (BB.out.trans (b3.mono BB.out.size))
  clear l_m b3
  go_wp2_with fail
  refine (ex_ins2 _ w3 Lm.out).mono ?_
  rintro e w4 ⟨v_k, rfl, l_k, b4⟩
  have Lf := Lib.hid (Lf.out.below b4)
  have Lm := Lib.hid (Lm.out.below b4)
  have Lk := Lib.hid l_k
  have BB := Lib.hid (BB.out.trans (b4.mono BB.out.size))
  clear l_k b4
  have lo := lstG_lit (enc := vc) w4 #[.int .i64 1, .int .i64 1, .int .i64 0, .int .i64 0] 26 [(1, 1, 0, 0)] rfl 1 rfl
  obtain ⟨w5, hw5⟩ : ∃ W, w4.alloc (.cells #[.int .i64 1, .int .i64 1, .int .i64 0, .int .i64 0] 26 (0, 0)) = W := ⟨_, rfl⟩
  have b5 : Below w4.heap.size w4 w5 := hw5 ▸ (Below.refl _ _).alloc (Nat.le_refl _) _
  rw [hw5] at lo
  have Lo := Lib.hid lo
  have hs5 := HS.out
  have Lf := Lib.hid (Lf.out.below b5)
  have Lm := Lib.hid (Lm.out.below b5)
  have Lk := Lib.hid (Lk.out.below b5)
  have BB := Lib.hid (BB.out.trans (b5.mono BB.out.size))
  clear lo b5
  have hz5 := BB.out.size
  obtain ⟨p0, p1, p2, p3⟩ := box_at (v := (1, 2, 3, 4)) ((BB.out.block (w.heap.size) (by omega)).trans RA.out)
  simp only at p0 p1 p2 p3
  obtain ⟨q0, q1, q2, q3⟩ := box_at (v := (1, 2, 3, 5)) ((BB.out.block (w.heap.size + 1) (by omega)).trans RB.out)
  simp only at q0 q1 q2 q3
  clear hs5 hz5
  go_wp2_with fail
  refine (ex_dom w5).mono ?_
  rintro e w6 ⟨rfl, b6⟩
  have Lf := Lib.hid (Lf.out.below b6)
  have Lm := Lib.hid (Lm.out.below b6)
  have Lk := Lib.hid (Lk.out.below b6)
  have Lo := Lib.hid (Lo.out.below b6)
  have BB := Lib.hid (BB.out.trans (b6.mono BB.out.size))
  clear b6
  have hs6 := HS.out
  have hz6 := BB.out.size
  obtain ⟨r0, r1, r2, r3⟩ := box_at (v := (1, 2, 3, 4)) ((BB.out.block (w.heap.size) (by omega)).trans RA.out)
  simp only at r0 r1 r2 r3
  clear hs6 hz6
  go_wp2_with fail
  refine (ex_dom2 w6).mono ?_
  rintro e w7 ⟨rfl, b7⟩
  have Lf := Lib.hid (Lf.out.below b7)
  have Lm := Lib.hid (Lm.out.below b7)
  have Lk := Lib.hid (Lk.out.below b7)
  have Lo := Lib.hid (Lo.out.below b7)
  have BB := Lib.hid (BB.out.trans (b7.mono BB.out.size))
  clear b7
  go_wp2_with fail
  refine (to_any _ _ (by decide) w7 Lf.out).mono ?_
  rintro e w8 ⟨v_tf, rfl, l_tf, b8⟩
  have Lm := Lib.hid (Lm.out.below b8)
  have Lk := Lib.hid (Lk.out.below b8)
  have Lo := Lib.hid (Lo.out.below b8)
  have Ltf := Lib.hid l_tf
  have BB := Lib.hid (BB.out.trans (b8.mono BB.out.size))
  clear l_tf b8 Lf
  have lo := lstG_lit (enc := vc) w8 #[.int .i64 1, .int .i64 2, .int .i64 0, .int .i64 0, .int .i64 2, .int .i64 1, .int .i64 0, .int .i64 0] 26 [(1, 2, 0, 0), (2, 1, 0, 0)] rfl 2 rfl
  obtain ⟨w9, hw9⟩ : ∃ W, w8.alloc (.cells #[.int .i64 1, .int .i64 2, .int .i64 0, .int .i64 0, .int .i64 2, .int .i64 1, .int .i64 0, .int .i64 0] 26 (0, 0)) = W := ⟨_, rfl⟩
  have b9 : Below w8.heap.size w8 w9 := hw9 ▸ (Below.refl _ _).alloc (Nat.le_refl _) _
  rw [hw9] at lo
  have Lq := Lib.hid lo
  have Lm := Lib.hid (Lm.out.below b9)
  have Lk := Lib.hid (Lk.out.below b9)
  have Lo := Lib.hid (Lo.out.below b9)
  have Ltf := Lib.hid (Ltf.out.below b9)
  have BB := Lib.hid (BB.out.trans (b9.mono BB.out.size))
  clear lo b9
  go_wp2_with fail
  refine (ex_same _ _ _ (by decide) w9 Ltf.out Lq.out).mono ?_
  rintro e w10 ⟨rfl, b10⟩
  have Lm := Lib.hid (Lm.out.below b10)
  have Lk := Lib.hid (Lk.out.below b10)
  have Lo := Lib.hid (Lo.out.below b10)
  have BB := Lib.hid (BB.out.trans (b10.mono BB.out.size))
  clear b10 Ltf Lq
  go_wp2_with fail
  refine (to_any _ _ (by decide) w10 Lm.out).mono ?_
  rintro e w11 ⟨v_tm, rfl, l_tm, b11⟩
  have Lk := Lib.hid (Lk.out.below b11)
  have Lo := Lib.hid (Lo.out.below b11)
  have Ltm := Lib.hid l_tm
  have BB := Lib.hid (BB.out.trans (b11.mono BB.out.size))
  clear l_tm b11 Lm
  go_wp2_with fail
  refine (ex_same _ _ _ (by decide) w11 Ltm.out Lo.out).mono ?_
  rintro e w12 ⟨rfl, b12⟩
  have Lk := Lib.hid (Lk.out.below b12)
  have Lo := Lib.hid (Lo.out.below b12)
  have BB := Lib.hid (BB.out.trans (b12.mono BB.out.size))
  clear b12 Ltm
  go_wp2_with fail
  refine (to_any _ _ (by decide) w12 Lk.out).mono ?_
  rintro e w13 ⟨v_tk, rfl, l_tk, b13⟩
  have Lo := Lib.hid (Lo.out.below b13)
  have Ltk := Lib.hid l_tk
  have BB := Lib.hid (BB.out.trans (b13.mono BB.out.size))
  clear l_tk b13 Lk
  go_wp2_with fail
  refine (ex_same _ _ _ (by decide) w13 Ltk.out Lo.out).mono ?_
  rintro e w14 ⟨rfl, b14⟩
  have BB := Lib.hid (BB.out.trans (b14.mono BB.out.size))
  clear b14 Ltk Lo
  go_wp2_with fail
  go_ret
  exact ⟨rfl, B0.out.trans (BB.out.mono B0.out.size)⟩
end Go.Proofs.Ytokcpgpchiikgaa
