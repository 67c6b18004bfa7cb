/-
  The laws IntervalNormalizes, IntervalLengths and IntervalCombines: true for every input, nothing that existed has changed. Condition: the ends are ints.
-/
import Derived.Test.YtmlmdggfcdakhaaVExa
namespace Go.Proofs.Ytmlmdggfcdakhaa
open Go.RowKit

theorem same_list (va vb : Value) (l : List Sp) (hl : l.length ≤ 1000000) (w : World) (hA : LstV w va l) (hB : LstV w vb l) : Calls Try.prog 16 #[va, vb] w fun e w' => e = .returned (.bool true) ∧ Below w.heap.size w w' := by
  have h := equal_any va vb l l hl hl w hA hB
  rw [show decide (l = l) = true from decide_eq_true rfl] at h
  exact h
theorem lnil (w : World) : LstV w (.slice none 0 0) [] := LstG.nil _ _
theorem ref_norm (v : Value) (l : List Sp) (hl : l.length ≤ 1000) (w : World) (h : LstV w v l) : Calls Try.prog 18 #[v, .slice none 0 0, .int .i64 0] w fun e w' => ∃ v', e = .returned v' ∧ LstV w' v' (nrmS l) ∧ Below w.heap.size w w' := by
  have C := comb_any 0 (.inl rfl) v (.slice none 0 0) l [] hl (by decide) w h (LstG.nil _ _)
  rw [nrm_op] at C
  exact C
set_option maxRecDepth 100000 in
set_option maxHeartbeats 8000000 in
theorem norms_law (v : Value) (l : List Sp) (_ : l.length ≤ 9223372036854775807) (ok : OkS l) (w : World) (h : LstV w v l) : Calls Try.prog 4 #[v] w fun e w' => e = .returned (.bool true) ∧ Below w.heap.size w w' := by
  have hh := h
  obtain ⟨A, c, rfl, -⟩ := hh
  have La := Lib.hid h
  have HO := Lib.hid ok
  clear h ok
  by_cases h1 : (30 : Int) < (l.length : Int)
  · clear La HO
    go_enter Try.func4, Try.ntmps4
    go_wp2_with fail
    refine (ex_any _).mono ?_
    rintro e w1 ⟨rfl, b1⟩
    have BB := Lib.hid b1
    clear b1
    go_wp2_with fail
    go_ret
    exact ⟨rfl, BB.out⟩
  · have hl : l.length ≤ 30 := by omega
    have d1 : decide ((30 : Int) < (l.length : Int)) = false := decide_eq_false h1
    clear h1
    have hn : (nrmS l).length ≤ 1000000 := by have := nrmS_len l; omega
    clear HO
    go_enter Try.func4, Try.ntmps4
    go_wp2_with fail
    refine (spans_any _ l (by omega) w La.out).mono ?_
    rintro e w1 ⟨v_s, rfl, l_s, b1⟩
    have La := Lib.hid (La.out.below b1)
    have Ls := Lib.hid l_s
    have BB1 := Lib.hid (b1)
    clear l_s b1
    go_wp2_with fail
    refine (norm_any _ l (by omega) w1 Ls.out).mono ?_
    rintro e w2 ⟨v_n, rfl, l_n, b2⟩
    have La := Lib.hid (La.out.below b2)
    have Ln := Lib.hid l_n
    have BB2 := Lib.hid (BB1.out.trans (b2.mono BB1.out.size))
    clear l_n b2 BB1 Ls
    go_wp2_with fail
    refine (ref_norm _ l (by omega) w2 La.out).mono ?_
    rintro e w3 ⟨v_r, rfl, l_r, b3⟩
    have Ln := Lib.hid (Ln.out.below b3)
    have Lr := Lib.hid l_r
    have BB3 := Lib.hid (BB2.out.trans (b3.mono BB2.out.size))
    clear l_r b3 BB2 La
    go_wp2_with fail
    refine (same_list _ _ _ hn w3 Ln.out Lr.out).mono ?_
    rintro e w4 ⟨rfl, b4⟩
    have BB4 := Lib.hid (BB3.out.trans (b4.mono BB3.out.size))
    clear b4 BB3 Ln Lr
    go_wp2_with fail
    refine (ex_any w4).mono ?_
    rintro e w5 ⟨rfl, b5⟩
    have BB5 := Lib.hid (BB4.out.trans (b5.mono BB4.out.size))
    clear b5 BB4
    go_wp2_with fail
    go_ret
    exact ⟨rfl, BB5.out⟩
set_option maxRecDepth 100000 in
set_option maxHeartbeats 8000000 in
theorem lens_law (v : Value) (l : List Sp) (_ : l.length ≤ 9223372036854775807) (ok : OkS l) (w : World) (h : LstV w v l) : Calls Try.prog 6 #[v] w fun e w' => e = .returned (.bool true) ∧ Below w.heap.size w w' := by
  have hh := h
  obtain ⟨A, c, rfl, -⟩ := hh
  have La := Lib.hid h
  have HO := Lib.hid ok
  clear h ok
  by_cases h1 : (30 : Int) < (l.length : Int)
  · clear La HO
    go_enter Try.func6, Try.ntmps6
    go_wp2_with fail
    refine (ex_any _).mono ?_
    rintro e w1 ⟨rfl, b1⟩
    have BB := Lib.hid b1
    clear b1
    go_wp2_with fail
    go_ret
    exact ⟨rfl, BB.out⟩
  · have hl : l.length ≤ 30 := by omega
    have d1 : decide ((30 : Int) < (l.length : Int)) = false := decide_eq_false h1
    clear h1
    have LA := Lib.hid (fun v w h => len_any v l (by omega) HO.out w h)
    have LB := Lib.hid (fun v w h => rlen_any v l (by omega) HO.out w h)
    generalize decide (lenS l ≤ 9223372036854775807) = q at LA LB
    generalize (if lenS l ≤ 9223372036854775807 then lenS l else 0) = m at LA LB
    clear HO
    have e1 : (m == m) = true := beq_true rfl
    cases q
    all_goals
      go_enter Try.func6, Try.ntmps6
      go_wp2_with fail
      refine (spans_any _ l (by omega) w La.out).mono ?_
      rintro e w1 ⟨v_s, rfl, l_s, b1⟩
      have La := Lib.hid (La.out.below b1)
      have Ls := Lib.hid l_s
      have BB1 := Lib.hid (b1)
      clear l_s b1
      go_wp2_with fail
      refine (LA.out _ w1 Ls.out).mono ?_
      rintro e w2 ⟨rfl, b2⟩
      have La := Lib.hid (La.out.below b2)
      have BB2 := Lib.hid (BB1.out.trans (b2.mono BB1.out.size))
      clear b2 BB1 Ls
      go_wp2_with fail
      refine (LB.out _ w2 La.out).mono ?_
      rintro e w3 ⟨rfl, b3⟩
      have BB3 := Lib.hid (BB2.out.trans (b3.mono BB2.out.size))
      clear b3 BB2 La
      go_wp2_with fail
      refine (ex_any w3).mono ?_
      rintro e w4 ⟨rfl, b4⟩
      have BB4 := Lib.hid (BB3.out.trans (b4.mono BB3.out.size))
      clear b4 BB3
      go_wp2_with fail
      go_ret
      exact ⟨rfl, BB4.out⟩
set_option maxRecDepth 100000 in
set_option maxHeartbeats 16000000 in
theorem combs_law (va : Value) (a : List Sp) (_ : a.length ≤ 9223372036854775807) (oka : OkS a) (vb : Value) (b : List Sp) (_ : b.length ≤ 9223372036854775807) (okb : OkS b) (w : World) (hA : LstV w va a) (hB : LstV w vb b) : Calls Try.prog 5 #[va, vb] w fun e w' => e = .returned (.bool true) ∧ Below w.heap.size w w' := by
  have hh := hA
  obtain ⟨A, ca, rfl, -⟩ := hh
  have hh := hB
  obtain ⟨B, cb, rfl, -⟩ := hh
  have La := Lib.hid hA
  have Lb := Lib.hid hB
  have OA := Lib.hid oka
  have OB := Lib.hid okb
  clear hA hB oka okb
  by_cases h1 : (30 : Int) < (a.length : Int)
  · clear La Lb OA OB
    go_enter Try.func5, Try.ntmps5
    go_wp2_with fail
    refine (ex_any _).mono ?_
    rintro e w1 ⟨rfl, b1⟩
    have BB := Lib.hid b1
    clear b1
    go_wp2_with fail
    go_ret
    exact ⟨rfl, BB.out⟩
  · have ha : a.length ≤ 30 := by omega
    have d1 : decide ((30 : Int) < (a.length : Int)) = false := decide_eq_false h1
    clear h1
    by_cases h2 : (30 : Int) < (b.length : Int)
    · clear La Lb OA OB
      go_enter Try.func5, Try.ntmps5
      go_wp2_with fail
      refine (ex_any _).mono ?_
      rintro e w1 ⟨rfl, b1⟩
      have BB := Lib.hid b1
      clear b1
      go_wp2_with fail
      go_ret
      exact ⟨rfl, BB.out⟩
    · have hb : b.length ≤ 30 := by omega
      have d2 : decide ((30 : Int) < (b.length : Int)) = false := decide_eq_false h2
      clear h2
      have hn : ∀ k, (opS (opF k a b) a b).length ≤ 1000000 := fun k => by have := op_len (opF k a b) a b; omega
      clear OA OB
      go_enter Try.func5, Try.ntmps5
      go_wp2_with fail
      refine (spans_any _ a (by omega) w La.out).mono ?_
      rintro e w1 ⟨v_s0, rfl, l_s0, b1⟩
      have La := Lib.hid (La.out.below b1)
      have Lb := Lib.hid (Lb.out.below b1)
      have Ls0 := Lib.hid l_s0
      have BB1 := Lib.hid (b1)
      clear l_s0 b1
      go_wp2_with fail
      refine (spans_any _ b (by omega) w1 Lb.out).mono ?_
      rintro e w2 ⟨v_t0, rfl, l_t0, b2⟩
      have La := Lib.hid (La.out.below b2)
      have Lb := Lib.hid (Lb.out.below b2)
      have Ls0 := Lib.hid (Ls0.out.below b2)
      have Lt0 := Lib.hid l_t0
      have BB2 := Lib.hid (BB1.out.trans (b2.mono BB1.out.size))
      clear l_t0 b2 BB1
      go_wp2_with fail
      refine (union_any _ _ a b (by omega) (by omega) w2 Ls0.out Lt0.out).mono ?_
      rintro e w3 ⟨v_u0, rfl, l_u0, b3⟩
      have La := Lib.hid (La.out.below b3)
      have Lb := Lib.hid (Lb.out.below b3)
      have Lu0 := Lib.hid l_u0
      have BB3 := Lib.hid (BB2.out.trans (b3.mono BB2.out.size))
      clear l_u0 b3 BB2 Ls0 Lt0
      go_wp2_with fail
      refine (comb_any 0 (by simp) _ _ a b (by omega) (by omega) w3 La.out Lb.out).mono ?_
      rintro e w4 ⟨v_r0, rfl, l_r0, b4⟩
      have La := Lib.hid (La.out.below b4)
      have Lb := Lib.hid (Lb.out.below b4)
      have Lu0 := Lib.hid (Lu0.out.below b4)
      have Lr0 := Lib.hid l_r0
      have BB4 := Lib.hid (BB3.out.trans (b4.mono BB3.out.size))
      clear l_r0 b4 BB3
      go_wp2_with fail
      refine (same_list _ _ _ (hn 0) w4 Lu0.out Lr0.out).mono ?_
      rintro e w5 ⟨rfl, b5⟩
      have La := Lib.hid (La.out.below b5)
      have Lb := Lib.hid (Lb.out.below b5)
      have BB5 := Lib.hid (BB4.out.trans (b5.mono BB4.out.size))
      clear b5 BB4 Lu0 Lr0
      go_wp2_with fail
      refine (spans_any _ a (by omega) w5 La.out).mono ?_
      rintro e w6 ⟨v_s1, rfl, l_s1, b6⟩
      have La := Lib.hid (La.out.below b6)
      have Lb := Lib.hid (Lb.out.below b6)
      have Ls1 := Lib.hid l_s1
      have BB6 := Lib.hid (BB5.out.trans (b6.mono BB5.out.size))
      clear l_s1 b6 BB5
      go_wp2_with fail
      refine (spans_any _ b (by omega) w6 Lb.out).mono ?_
      rintro e w7 ⟨v_t1, rfl, l_t1, b7⟩
      have La := Lib.hid (La.out.below b7)
      have Lb := Lib.hid (Lb.out.below b7)
      have Ls1 := Lib.hid (Ls1.out.below b7)
      have Lt1 := Lib.hid l_t1
      have BB7 := Lib.hid (BB6.out.trans (b7.mono BB6.out.size))
      clear l_t1 b7 BB6
      go_wp2_with fail
      refine (meet_any _ _ a b (by omega) (by omega) w7 Ls1.out Lt1.out).mono ?_
      rintro e w8 ⟨v_u1, rfl, l_u1, b8⟩
      have La := Lib.hid (La.out.below b8)
      have Lb := Lib.hid (Lb.out.below b8)
      have Lu1 := Lib.hid l_u1
      have BB8 := Lib.hid (BB7.out.trans (b8.mono BB7.out.size))
      clear l_u1 b8 BB7 Ls1 Lt1
      go_wp2_with fail
      refine (comb_any 1 (by simp) _ _ a b (by omega) (by omega) w8 La.out Lb.out).mono ?_
      rintro e w9 ⟨v_r1, rfl, l_r1, b9⟩
      have La := Lib.hid (La.out.below b9)
      have Lb := Lib.hid (Lb.out.below b9)
      have Lu1 := Lib.hid (Lu1.out.below b9)
      have Lr1 := Lib.hid l_r1
      have BB9 := Lib.hid (BB8.out.trans (b9.mono BB8.out.size))
      clear l_r1 b9 BB8
      go_wp2_with fail
      refine (same_list _ _ _ (hn 1) w9 Lu1.out Lr1.out).mono ?_
      rintro e w10 ⟨rfl, b10⟩
      have La := Lib.hid (La.out.below b10)
      have Lb := Lib.hid (Lb.out.below b10)
      have BB10 := Lib.hid (BB9.out.trans (b10.mono BB9.out.size))
      clear b10 BB9 Lu1 Lr1
      go_wp2_with fail
      refine (spans_any _ a (by omega) w10 La.out).mono ?_
      rintro e w11 ⟨v_s2, rfl, l_s2, b11⟩
      have La := Lib.hid (La.out.below b11)
      have Lb := Lib.hid (Lb.out.below b11)
      have Ls2 := Lib.hid l_s2
      have BB11 := Lib.hid (BB10.out.trans (b11.mono BB10.out.size))
      clear l_s2 b11 BB10
      go_wp2_with fail
      refine (spans_any _ b (by omega) w11 Lb.out).mono ?_
      rintro e w12 ⟨v_t2, rfl, l_t2, b12⟩
      have La := Lib.hid (La.out.below b12)
      have Lb := Lib.hid (Lb.out.below b12)
      have Ls2 := Lib.hid (Ls2.out.below b12)
      have Lt2 := Lib.hid l_t2
      have BB12 := Lib.hid (BB11.out.trans (b12.mono BB11.out.size))
      clear l_t2 b12 BB11
      go_wp2_with fail
      refine (sub_any _ _ a b (by omega) (by omega) w12 Ls2.out Lt2.out).mono ?_
      rintro e w13 ⟨v_u2, rfl, l_u2, b13⟩
      have La := Lib.hid (La.out.below b13)
      have Lb := Lib.hid (Lb.out.below b13)
      have Lu2 := Lib.hid l_u2
      have BB13 := Lib.hid (BB12.out.trans (b13.mono BB12.out.size))
      clear l_u2 b13 BB12 Ls2 Lt2
      go_wp2_with fail
      refine (comb_any 2 (by simp) _ _ a b (by omega) (by omega) w13 La.out Lb.out).mono ?_
      rintro e w14 ⟨v_r2, rfl, l_r2, b14⟩
      have La := Lib.hid (La.out.below b14)
      have Lb := Lib.hid (Lb.out.below b14)
      have Lu2 := Lib.hid (Lu2.out.below b14)
      have Lr2 := Lib.hid l_r2
      have BB14 := Lib.hid (BB13.out.trans (b14.mono BB13.out.size))
      clear l_r2 b14 BB13
      go_wp2_with fail
      refine (same_list _ _ _ (hn 2) w14 Lu2.out Lr2.out).mono ?_
      rintro e w15 ⟨rfl, b15⟩
      have La := Lib.hid (La.out.below b15)
      have Lb := Lib.hid (Lb.out.below b15)
      have BB15 := Lib.hid (BB14.out.trans (b15.mono BB14.out.size))
      clear b15 BB14 Lu2 Lr2
      go_wp2_with fail
      refine (ex_any w15).mono ?_
      rintro e w16 ⟨rfl, b16⟩
      have La := Lib.hid (La.out.below b16)
      have Lb := Lib.hid (Lb.out.below b16)
      have BB16 := Lib.hid (BB15.out.trans (b16.mono BB15.out.size))
      clear b16 BB15
      go_wp2_with fail
      go_ret
      exact ⟨rfl, BB16.out⟩
end Go.Proofs.Ytmlmdggfcdakhaa
