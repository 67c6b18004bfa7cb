/-
  The chapter's examples: exampleHolds answers true. Condition: none.
-/
import Derived.Test.YtmlmdggfcdakhaaVHelp2
namespace Go.Proofs.Ytmlmdggfcdakhaa
open Go.RowKit

theorem lit1 (w : World) (cs : Array Value) (l : List Sp) (h : cs.toList = fl sc l) (n : Nat) (hn : l.length = n) (T : TypeId) : LstV (w.alloc (.cells cs T (0, 0))) (.slice (some ⟨w.heap.size, 0, none⟩) n n) l ∧ Below w.heap.size w (w.alloc (.cells cs T (0, 0))) :=
  ⟨lstG_lit w cs T l h n hn, (Below.refl _ _).alloc (Nat.le_refl _) _⟩
theorem lit2 (w : World) (cs ds : Array Value) (l m : List Sp) (h : cs.toList = fl sc l) (k : ds.toList = fl sc m) (n p : Nat) (hn : l.length = n) (hp : m.length = p) (T : TypeId) :
    LstV ((w.alloc (.cells cs T (0, 0))).alloc (.cells ds T (0, 0))) (.slice (some ⟨w.heap.size, 0, none⟩) n n) l ∧ LstV ((w.alloc (.cells cs T (0, 0))).alloc (.cells ds T (0, 0))) (.slice (some ⟨w.heap.size + 1, 0, none⟩) p p) m ∧ Below w.heap.size w ((w.alloc (.cells cs T (0, 0))).alloc (.cells ds T (0, 0))) := by
  obtain ⟨a1, a2⟩ := lit1 w cs l h n hn T
  obtain ⟨b1, b2⟩ := lit1 (w.alloc (.cells cs T (0, 0))) ds m k p hp T
  rw [show (w.alloc (.cells cs T (0, 0))).heap.size = w.heap.size + 1 by simp] at b1
  exact ⟨a1.below b2, b1, a2.trans (b2.mono a2.size)⟩
theorem lst_len {w : World} {v : Value} {l : List Sp} (h : LstV w v l) (n : Nat) (hl : l.length = n) : ∃ A c, v = .slice A n c := by
  obtain ⟨A, c, hv, _⟩ := h
  exact ⟨A, c, by rw [hv, hl]⟩
theorem ex_norm (w : World) : Calls Try.prog 17 #[.slice (some ⟨w.heap.size, 0, none⟩) 4 4] (w.alloc (.cells #[.int .i64 5, .int .i64 7, .int .i64 1, .int .i64 3, .int .i64 3, .int .i64 4, .int .i64 6, .int .i64 6] 27 (0, 0))) fun e w' => ∃ v', e = .returned v' ∧ LstV w' v' [(1, 4), (5, 7)] ∧ Below w.heap.size w w' := by
  obtain ⟨h1, hb⟩ := lit1 w #[.int .i64 5, .int .i64 7, .int .i64 1, .int .i64 3, .int .i64 3, .int .i64 4, .int .i64 6, .int .i64 6] [(5, 7), (1, 3), (3, 4), (6, 6)] rfl 4 rfl 27
  refine (norm_any _ _ (by decide) _ h1).mono ?_
  rintro e w' ⟨v', he, hl, hb'⟩
  rw [show nrmS [(5, 7), (1, 3), (3, 4), (6, 6)] = [(1, 4), (5, 7)] by decide] at hl
  exact ⟨v', he, hl, hb.trans (hb'.mono hb.size)⟩
theorem ex_sub (w : World) : Calls Try.prog 21 #[.slice (some ⟨w.heap.size, 0, none⟩) 1 1, .slice (some ⟨w.heap.size + 1, 0, none⟩) 1 1] ((w.alloc (.cells #[.int .i64 1, .int .i64 10] 27 (0, 0))).alloc (.cells #[.int .i64 3, .int .i64 5] 27 (0, 0))) fun e w' => ∃ v', e = .returned v' ∧ LstV w' v' [(1, 3), (5, 10)] ∧ Below w.heap.size w w' := by
  obtain ⟨h1, h2, hb⟩ := lit2 w #[.int .i64 1, .int .i64 10] #[.int .i64 3, .int .i64 5] [(1, 10)] [(3, 5)] rfl rfl 1 1 rfl rfl 27
  refine (sub_any _ _ _ _ (by decide) (by decide) _ h1 h2).mono ?_
  rintro e w' ⟨v', he, hl, hb'⟩
  rw [show opS (opF 2 [(1, 10)] [(3, 5)]) [(1, 10)] [(3, 5)] = [(1, 3), (5, 10)] by decide] at hl
  exact ⟨v', he, hl, hb.trans (hb'.mono hb.size)⟩
theorem ex_meet (w : World) : Calls Try.prog 20 #[.slice (some ⟨w.heap.size, 0, none⟩) 1 1, .slice (some ⟨w.heap.size + 1, 0, none⟩) 2 2] ((w.alloc (.cells #[.int .i64 1, .int .i64 10] 27 (0, 0))).alloc (.cells #[.int .i64 0, .int .i64 2, .int .i64 9, .int .i64 12] 27 (0, 0))) fun e w' => ∃ v', e = .returned v' ∧ LstV w' v' [(1, 2), (9, 10)] ∧ Below w.heap.size w w' := by
  obtain ⟨h1, h2, hb⟩ := lit2 w #[.int .i64 1, .int .i64 10] #[.int .i64 0, .int .i64 2, .int .i64 9, .int .i64 12] [(1, 10)] [(0, 2), (9, 12)] rfl rfl 1 2 rfl rfl 27
  refine (meet_any _ _ _ _ (by decide) (by decide) _ h1 h2).mono ?_
  rintro e w' ⟨v', he, hl, hb'⟩
  rw [show opS (opF 1 [(1, 10)] [(0, 2), (9, 12)]) [(1, 10)] [(0, 2), (9, 12)] = [(1, 2), (9, 10)] by decide] at hl
  exact ⟨v', he, hl, hb.trans (hb'.mono hb.size)⟩
theorem ex_len (w : World) : Calls Try.prog 22 #[.slice (some ⟨w.heap.size, 0, none⟩) 2 2] (w.alloc (.cells #[.int .i64 1, .int .i64 4, .int .i64 2, .int .i64 6] 27 (0, 0))) fun e w' => e = .returned (.tuple #[.int .i64 5, .bool true]) ∧ Below w.heap.size w w' := by
  obtain ⟨h1, hb⟩ := lit1 w #[.int .i64 1, .int .i64 4, .int .i64 2, .int .i64 6] [(1, 4), (2, 6)] rfl 2 rfl 27
  refine (len_any _ _ (by decide) (by unfold OkS; decide) _ h1).mono ?_
  rintro e w' ⟨he, hb'⟩
  rw [show lenS [(1, 4), (2, 6)] = 5 by decide] at he
  exact ⟨he, hb.trans (hb'.mono hb.size)⟩
theorem ex_gaps (w : World) : Calls Try.prog 24 #[.slice (some ⟨w.heap.size, 0, none⟩) 2 2, .agg #[.int .i64 0, .int .i64 8]] (w.alloc (.cells #[.int .i64 1, .int .i64 3, .int .i64 5, .int .i64 6] 27 (0, 0))) fun e w' => ∃ v', e = .returned v' ∧ LstV w' v' [(0, 1), (3, 5), (6, 8)] ∧ Below w.heap.size w w' := by
  obtain ⟨h1, hb⟩ := lit1 w #[.int .i64 1, .int .i64 3, .int .i64 5, .int .i64 6] [(1, 3), (5, 6)] rfl 2 rfl 27
  refine (gaps_any _ (0, 8) _ (by decide) _ h1).mono ?_
  rintro e w' ⟨v', he, hl, hb'⟩
  rw [show opS (opF 2 [(0, 8)] [(1, 3), (5, 6)]) [(0, 8)] [(1, 3), (5, 6)] = [(0, 1), (3, 5), (6, 8)] by decide] at hl
  exact ⟨v', he, hl, hb.trans (hb'.mono hb.size)⟩
theorem ex_union (w : World) : Calls Try.prog 19 #[.slice (some ⟨w.heap.size, 0, none⟩) 1 1, .slice (some ⟨w.heap.size + 1, 0, none⟩) 1 1] ((w.alloc (.cells #[.int .i64 1, .int .i64 2] 27 (0, 0))).alloc (.cells #[.int .i64 2, .int .i64 3] 27 (0, 0))) fun e w' => ∃ v', e = .returned v' ∧ LstV w' v' [(1, 3)] ∧ Below w.heap.size w w' := by
  obtain ⟨h1, h2, hb⟩ := lit2 w #[.int .i64 1, .int .i64 2] #[.int .i64 2, .int .i64 3] [(1, 2)] [(2, 3)] rfl rfl 1 1 rfl rfl 27
  refine (union_any _ _ _ _ (by decide) (by decide) _ h1 h2).mono ?_
  rintro e w' ⟨v', he, hl, hb'⟩
  rw [show opS (opF 0 [(1, 2)] [(2, 3)]) [(1, 2)] [(2, 3)] = [(1, 3)] by decide] at hl
  exact ⟨v', he, hl, hb.trans (hb'.mono hb.size)⟩
theorem ex_eq (v : Value) (l : List Sp) (cs : Array Value) (h : cs.toList = fl sc l) (n : Nat) (hn : l.length = n) (hs : n ≤ 1000) (w : World) (hl : LstV w v l) : Calls Try.prog 16 #[v, .slice (some ⟨w.heap.size, 0, none⟩) n n] (w.alloc (.cells cs 24 (0, 0))) fun e w' => e = .returned (.bool true) ∧ Below w.heap.size w w' := by
  obtain ⟨h1, hb⟩ := lit1 w cs l h n hn 24
  refine (equal_any v _ l l (by omega) (by omega) _ (hl.below hb) h1).mono ?_
  rintro e w' ⟨he, hb'⟩
  exact ⟨by rw [he]; simp, hb.trans (hb'.mono hb.size)⟩
theorem ex_cont (w : World) : Calls Try.prog 13 #[.slice (some ⟨w.heap.size, 0, none⟩) 1 1, .int .i64 2] (w.alloc (.cells #[.int .i64 2, .int .i64 3] 27 (0, 0))) fun e w' => e = .returned (.bool true) ∧ Below w.heap.size w w' := by
  obtain ⟨h1, hb⟩ := lit1 w #[.int .i64 2, .int .i64 3] [(2, 3)] rfl 1 rfl 27
  refine (cont_any 2 _ _ (by decide) _ h1).mono ?_
  rintro e w' ⟨he, hb'⟩
  exact ⟨he, hb.trans (hb'.mono hb.size)⟩
set_option maxRecDepth 100000 in
set_option maxHeartbeats 4000000 in
theorem ex_any (w : World) : Calls Try.prog 11 #[] w fun e w' => e = .returned (.bool true) ∧ Below w.heap.size w w' := by
  go_enter Try.func11, Try.ntmps11
  go_wp2_with fail
  refine (ex_norm w).mono ?_
  rintro e w1 ⟨v1, rfl, l1, b1⟩
  obtain ⟨A1, c1, rfl⟩ := lst_len l1 2 rfl
  have L1 := Lib.hid l1
  have BB1 := Lib.hid (b1)
  clear l1 b1
  go_wp2_with fail
  refine (ex_sub w1).mono ?_
  rintro e w2 ⟨v2, rfl, l2, b2⟩
  obtain ⟨A2, c2, rfl⟩ := lst_len l2 2 rfl
  have L1 := Lib.hid (L1.out.below b2)
  have L2 := Lib.hid l2
  have BB2 := Lib.hid (BB1.out.trans (b2.mono BB1.out.size))
  clear l2 b2 BB1
  go_wp2_with fail
  refine (ex_meet w2).mono ?_
  rintro e w3 ⟨v3, rfl, l3, b3⟩
  obtain ⟨A3, c3, rfl⟩ := lst_len l3 2 rfl
  have L1 := Lib.hid (L1.out.below b3)
  have L2 := Lib.hid (L2.out.below b3)
  have L3 := Lib.hid l3
  have BB3 := Lib.hid (BB2.out.trans (b3.mono BB2.out.size))
  clear l3 b3 BB2
  go_wp2_with fail
  refine (ex_len w3).mono ?_
  rintro e w4 ⟨rfl, b4⟩
  have L1 := Lib.hid (L1.out.below b4)
  have L2 := Lib.hid (L2.out.below b4)
  have L3 := Lib.hid (L3.out.below b4)
  have BB4 := Lib.hid (BB3.out.trans (b4.mono BB3.out.size))
  clear b4 BB3
  go_wp2_with fail
  refine (ex_gaps w4).mono ?_
  rintro e w5 ⟨v5, rfl, l5, b5⟩
  obtain ⟨A5, c5, rfl⟩ := lst_len l5 3 rfl
  have L1 := Lib.hid (L1.out.below b5)
  have L2 := Lib.hid (L2.out.below b5)
  have L3 := Lib.hid (L3.out.below b5)
  have L5 := Lib.hid l5
  have BB5 := Lib.hid (BB4.out.trans (b5.mono BB4.out.size))
  clear l5 b5 BB4
  go_wp2_with fail
  refine (ex_union w5).mono ?_
  rintro e w6 ⟨v6, rfl, l6, b6⟩
  obtain ⟨A6, c6, rfl⟩ := lst_len l6 1 rfl
  have L1 := Lib.hid (L1.out.below b6)
  have L2 := Lib.hid (L2.out.below b6)
  have L3 := Lib.hid (L3.out.below b6)
  have L5 := Lib.hid (L5.out.below b6)
  have L6 := Lib.hid l6
  have BB6 := Lib.hid (BB5.out.trans (b6.mono BB5.out.size))
  clear l6 b6 BB5
  go_wp2_with fail
  refine (ex_eq _ [(1, 4), (5, 7)] #[.int .i64 1, .int .i64 4, .int .i64 5, .int .i64 7] rfl 2 rfl (by decide) w6 L1.out).mono ?_
  rintro e w7 ⟨rfl, b7⟩
  have L2 := Lib.hid (L2.out.below b7)
  have L3 := Lib.hid (L3.out.below b7)
  have L5 := Lib.hid (L5.out.below b7)
  have L6 := Lib.hid (L6.out.below b7)
  have BB7 := Lib.hid (BB6.out.trans (b7.mono BB6.out.size))
  clear b7 BB6 L1
  go_wp2_with fail
  refine (ex_eq _ [(1, 3), (5, 10)] #[.int .i64 1, .int .i64 3, .int .i64 5, .int .i64 10] rfl 2 rfl (by decide) w7 L2.out).mono ?_
  rintro e w8 ⟨rfl, b8⟩
  have L3 := Lib.hid (L3.out.below b8)
  have L5 := Lib.hid (L5.out.below b8)
  have L6 := Lib.hid (L6.out.below b8)
  have BB8 := Lib.hid (BB7.out.trans (b8.mono BB7.out.size))
  clear b8 BB7 L2
  go_wp2_with fail
  refine (ex_eq _ [(1, 2), (9, 10)] #[.int .i64 1, .int .i64 2, .int .i64 9, .int .i64 10] rfl 2 rfl (by decide) w8 L3.out).mono ?_
  rintro e w9 ⟨rfl, b9⟩
  have L5 := Lib.hid (L5.out.below b9)
  have L6 := Lib.hid (L6.out.below b9)
  have BB9 := Lib.hid (BB8.out.trans (b9.mono BB8.out.size))
  clear b9 BB8 L3
  go_wp2_with fail
  refine (ex_eq _ [(0, 1), (3, 5), (6, 8)] #[.int .i64 0, .int .i64 1, .int .i64 3, .int .i64 5, .int .i64 6, .int .i64 8] rfl 3 rfl (by decide) w9 L5.out).mono ?_
  rintro e w10 ⟨rfl, b10⟩
  have L6 := Lib.hid (L6.out.below b10)
  have BB10 := Lib.hid (BB9.out.trans (b10.mono BB9.out.size))
  clear b10 BB9 L5
  go_wp2_with fail
  refine (ex_eq _ [(1, 3)] #[.int .i64 1, .int .i64 3] rfl 1 rfl (by decide) w10 L6.out).mono ?_
  rintro e w11 ⟨rfl, b11⟩
  have BB11 := Lib.hid (BB10.out.trans (b11.mono BB10.out.size))
  clear b11 BB10 L6
  go_wp2_with fail
  refine (valid_any (0, 1) _).mono ?_
  rintro e w12 ⟨rfl, b12⟩
  have BB12 := Lib.hid (BB11.out.trans (b12.mono BB11.out.size))
  clear b12 BB11
  go_wp2_with fail
  refine (valid_any (0, 0) _).mono ?_
  rintro e w13 ⟨rfl, b13⟩
  have BB13 := Lib.hid (BB12.out.trans (b13.mono BB12.out.size))
  clear b13 BB12
  go_wp2_with fail
  refine (ex_cont w13).mono ?_
  rintro e w14 ⟨rfl, b14⟩
  have BB14 := Lib.hid (BB13.out.trans (b14.mono BB13.out.size))
  clear b14 BB13
  go_wp2_with fail
  go_ret
  exact ⟨rfl, BB14.out⟩
end Go.Proofs.Ytmlmdggfcdakhaa
