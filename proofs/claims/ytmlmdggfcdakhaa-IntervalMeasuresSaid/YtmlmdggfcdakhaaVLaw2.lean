/-
  The laws IntervalAlgebra and IntervalCanonical: true for every input, nothing that existed has changed. Condition: the ends are ints.
-/
import Derived.Test.YtmlmdggfcdakhaaVLaw
namespace Go.Proofs.Ytmlmdggfcdakhaa
open Go.RowKit

theorem op_mem (k : Nat) (a b : List Sp) (x : Int) : memS (opS (opF k a b) a b) x = opF k a b x := (opS_spec (opF_opr k a b)).2 x
theorem op_comm0 (a b : List Sp) : opS (opF 0 b a) b a = opS (opF 0 a b) a b := op_of (opF_opr 0 a b) (opS_spec (opF_opr 0 b a)).1 fun z => by rw [op_mem]; exact Bool.or_comm _ _
theorem op_comm1 (a b : List Sp) : opS (opF 1 b a) b a = opS (opF 1 a b) a b := op_of (opF_opr 1 a b) (opS_spec (opF_opr 1 b a)).1 fun z => by rw [op_mem]; exact Bool.and_comm _ _
theorem nrm_twice (l : List Sp) : nrmS (nrmS l) = nrmS l := nrmS_of (nrmS_spec l).1 fun _ => rfl
theorem cont_op (k : Nat) (x : Int) (v : Value) (a b : List Sp) (ha : a.length ≤ 100) (hb : b.length ≤ 100) (w : World) (h : LstV w v (opS (opF k a b) a b)) : Calls Try.prog 13 #[v, .int .i64 x] w fun e w' => e = .returned (.bool (opF k a b x)) ∧ Below w.heap.size w w' := by
  have C := cont_any x v _ (by have := op_len (opF k a b) a b; omega) w h
  rw [op_mem] at C
  exact C
theorem cont_nrm (x : Int) (v : Value) (a : List Sp) (ha : a.length ≤ 100) (w : World) (h : LstV w v (nrmS a)) : Calls Try.prog 13 #[v, .int .i64 x] w fun e w' => e = .returned (.bool (memS a x)) ∧ Below w.heap.size w w' := by
  have C := cont_any x v _ (by have := nrmS_len a; omega) w h
  rw [(nrmS_spec a).2] at C
  exact C
set_option maxRecDepth 100000 in
set_option maxHeartbeats 16000000 in
theorem algebra_law (va : Value) (a : List Sp) (_ : a.length ≤ 9223372036854775807) (oka : OkS a) (vb : Value) (b : List Sp) (_ : b.length ≤ 9223372036854775807) (okb : OkS b) (x : Int) (w : World) (hA : LstV w va a) (hB : LstV w vb b) : Calls Try.prog 8 #[va, vb, .int .i64 x] w fun e w' => e = .returned (.bool true) ∧ Below w.heap.size w w' := by
  have hh := hA
  obtain ⟨A, ca, rfl, -⟩ := hh
  have hh := hB
  obtain ⟨B, cb, rfl, -⟩ := hh
  have La := Lib.hid hA
  have Lb := Lib.hid hB
  have OA := Lib.hid oka
  have OB := Lib.hid okb
  clear hA hB oka okb
  by_cases h1 : (60 : Int) < (a.length : Int)
  · clear La Lb OA OB
    go_enter Try.func8, Try.ntmps8
    go_wp2_with fail
    refine (ex_any _).mono ?_
    rintro e w1 ⟨rfl, b1⟩
    have BB := Lib.hid b1
    clear b1
    go_wp2_with fail
    go_ret
    exact ⟨rfl, BB.out⟩
  · have ha : a.length ≤ 60 := by omega
    have d1 : decide ((60 : Int) < (a.length : Int)) = false := decide_eq_false h1
    clear h1
    by_cases h2 : (60 : Int) < (b.length : Int)
    · clear La Lb OA OB
      go_enter Try.func8, Try.ntmps8
      go_wp2_with fail
      refine (ex_any _).mono ?_
      rintro e w1 ⟨rfl, b1⟩
      have BB := Lib.hid b1
      clear b1
      go_wp2_with fail
      go_ret
      exact ⟨rfl, BB.out⟩
    · have hb : b.length ≤ 60 := by omega
      have d2 : decide ((60 : Int) < (b.length : Int)) = false := decide_eq_false h2
      clear h2
      have CA := Lib.hid (fun v w h => cont_any x v a (by omega) w h)
      have CB := Lib.hid (fun v w h => cont_any x v b (by omega) w h)
      have CN := Lib.hid (fun v w h => cont_nrm x v a (by omega) w h)
      have C0 := Lib.hid (fun v w h => cont_op 0 x v a b (by omega) (by omega) w h)
      have C1 := Lib.hid (fun v w h => cont_op 1 x v a b (by omega) (by omega) w h)
      have C2 := Lib.hid (fun v w h => cont_op 2 x v a b (by omega) (by omega) w h)
      rw [opF_0] at C0
      rw [opF_1] at C1
      rw [opF_2] at C2
      simp only at C0 C1 C2
      generalize memS a x = p at CA CN C0 C1 C2
      generalize memS b x = q at CB C0 C1 C2
      clear OA OB
      cases p <;> cases q
      all_goals
        try simp only [Bool.or_true, Bool.or_false, Bool.and_true, Bool.and_false, Bool.not_true, Bool.not_false, Bool.or_self, Bool.and_self] at C0 C1 C2
        go_enter Try.func8, Try.ntmps8
        go_wp2_with fail
        refine (spans_any _ a (by omega) w La.out).mono ?_
        rintro e w1 ⟨v_s, rfl, l_s, b1⟩
        have Lb := Lib.hid (Lb.out.below b1)
        have Ls := Lib.hid l_s
        have BB1 := Lib.hid (b1)
        clear l_s b1 La
        go_wp2_with fail
        refine (spans_any _ b (by omega) w1 Lb.out).mono ?_
        rintro e w2 ⟨v_t, rfl, l_t, b2⟩
        have Ls := Lib.hid (Ls.out.below b2)
        have Lt := Lib.hid l_t
        have BB2 := Lib.hid (BB1.out.trans (b2.mono BB1.out.size))
        clear l_t b2 BB1 Lb
        go_wp2_with fail
        refine (CA.out _ w2 Ls.out).mono ?_
        rintro e w3 ⟨rfl, b3⟩
        have Ls := Lib.hid (Ls.out.below b3)
        have Lt := Lib.hid (Lt.out.below b3)
        have BB3 := Lib.hid (BB2.out.trans (b3.mono BB2.out.size))
        clear b3 BB2
        go_wp2_with fail
        refine (CB.out _ w3 Lt.out).mono ?_
        rintro e w4 ⟨rfl, b4⟩
        have Ls := Lib.hid (Ls.out.below b4)
        have Lt := Lib.hid (Lt.out.below b4)
        have BB4 := Lib.hid (BB3.out.trans (b4.mono BB3.out.size))
        clear b4 BB3
        go_wp2_with fail
        refine (union_any _ _ a b (by omega) (by omega) w4 Ls.out Lt.out).mono ?_
        rintro e w5 ⟨v_u0, rfl, l_u0, b5⟩
        have Ls := Lib.hid (Ls.out.below b5)
        have Lt := Lib.hid (Lt.out.below b5)
        have Lu0 := Lib.hid l_u0
        have BB5 := Lib.hid (BB4.out.trans (b5.mono BB4.out.size))
        clear l_u0 b5 BB4
        go_wp2_with fail
        refine (C0.out _ w5 Lu0.out).mono ?_
        rintro e w6 ⟨rfl, b6⟩
        have Ls := Lib.hid (Ls.out.below b6)
        have Lt := Lib.hid (Lt.out.below b6)
        have BB6 := Lib.hid (BB5.out.trans (b6.mono BB5.out.size))
        clear b6 BB5 Lu0
        go_wp2_with fail
        refine (meet_any _ _ a b (by omega) (by omega) w6 Ls.out Lt.out).mono ?_
        rintro e w7 ⟨v_u1, rfl, l_u1, b7⟩
        have Ls := Lib.hid (Ls.out.below b7)
        have Lt := Lib.hid (Lt.out.below b7)
        have Lu1 := Lib.hid l_u1
        have BB7 := Lib.hid (BB6.out.trans (b7.mono BB6.out.size))
        clear l_u1 b7 BB6
        go_wp2_with fail
        refine (C1.out _ w7 Lu1.out).mono ?_
        rintro e w8 ⟨rfl, b8⟩
        have Ls := Lib.hid (Ls.out.below b8)
        have Lt := Lib.hid (Lt.out.below b8)
        have BB8 := Lib.hid (BB7.out.trans (b8.mono BB7.out.size))
        clear b8 BB7 Lu1
        go_wp2_with fail
        refine (sub_any _ _ a b (by omega) (by omega) w8 Ls.out Lt.out).mono ?_
        rintro e w9 ⟨v_u2, rfl, l_u2, b9⟩
        have Ls := Lib.hid (Ls.out.below b9)
        have Lu2 := Lib.hid l_u2
        have BB9 := Lib.hid (BB8.out.trans (b9.mono BB8.out.size))
        clear l_u2 b9 BB8 Lt
        go_wp2_with fail
        refine (C2.out _ w9 Lu2.out).mono ?_
        rintro e w10 ⟨rfl, b10⟩
        have Ls := Lib.hid (Ls.out.below b10)
        have BB10 := Lib.hid (BB9.out.trans (b10.mono BB9.out.size))
        clear b10 BB9 Lu2
        go_wp2_with fail
        refine (norm_any _ a (by omega) w10 Ls.out).mono ?_
        rintro e w11 ⟨v_n, rfl, l_n, b11⟩
        have Ln := Lib.hid l_n
        have BB11 := Lib.hid (BB10.out.trans (b11.mono BB10.out.size))
        clear l_n b11 BB10 Ls
        go_wp2_with fail
        refine (CN.out _ w11 Ln.out).mono ?_
        rintro e w12 ⟨rfl, b12⟩
        have BB12 := Lib.hid (BB11.out.trans (b12.mono BB11.out.size))
        clear b12 BB11 Ln
        go_wp2_with fail
        refine (ex_any w12).mono ?_
        rintro e w13 ⟨rfl, b13⟩
        have BB13 := Lib.hid (BB12.out.trans (b13.mono BB12.out.size))
        clear b13 BB12
        go_wp2_with fail
        go_ret
        exact ⟨rfl, BB13.out⟩
set_option maxRecDepth 100000 in
set_option maxHeartbeats 16000000 in
theorem canon_law (va : Value) (a : List Sp) (_ : a.length ≤ 9223372036854775807) (oka : OkS a) (vb : Value) (b : List Sp) (_ : b.length ≤ 9223372036854775807) (okb : OkS b) (w : World) (hA : LstV w va a) (hB : LstV w vb b) : Calls Try.prog 9 #[va, vb] w fun e w' => e = .returned (.bool true) ∧ Below w.heap.size w w' := by
  have hh := hA
  obtain ⟨A, ca, rfl, -⟩ := hh
  have hh := hB
  obtain ⟨B, cb, rfl, -⟩ := hh
  have La := Lib.hid hA
  have Lb := Lib.hid hB
  have OA := Lib.hid oka
  have OB := Lib.hid okb
  clear hA hB oka okb
  by_cases h1 : (60 : Int) < (a.length : Int)
  · clear La Lb OA OB
    go_enter Try.func9, Try.ntmps9
    go_wp2_with fail
    refine (ex_any _).mono ?_
    rintro e w1 ⟨rfl, b1⟩
    have BB := Lib.hid b1
    clear b1
    go_wp2_with fail
    go_ret
    exact ⟨rfl, BB.out⟩
  · have ha : a.length ≤ 60 := by omega
    have d1 : decide ((60 : Int) < (a.length : Int)) = false := decide_eq_false h1
    clear h1
    by_cases h2 : (60 : Int) < (b.length : Int)
    · clear La Lb OA OB
      go_enter Try.func9, Try.ntmps9
      go_wp2_with fail
      refine (ex_any _).mono ?_
      rintro e w1 ⟨rfl, b1⟩
      have BB := Lib.hid b1
      clear b1
      go_wp2_with fail
      go_ret
      exact ⟨rfl, BB.out⟩
    · have hb : b.length ≤ 60 := by omega
      have d2 : decide ((60 : Int) < (b.length : Int)) = false := decide_eq_false h2
      clear h2
      have hn := nrmS_len a
      have hz : ∀ k, (opS (opF k a b) a b).length ≤ 1000000 := fun k => by have := op_len (opF k a b) a b; omega
      have N0 := Lib.hid (nrmS_spec a).1
      have NK : Hid (∀ k, Nrm (opS (opF k a b) a b)) := fun k => (opS_spec (opF_opr k a b)).1
      have NN := Lib.hid (fun v w h => norm_any v (nrmS a) (by omega) w h)
      rw [nrm_twice] at NN
      have U0 := Lib.hid (fun va vb w h k => union_any va vb b a (by omega) (by omega) w h k)
      rw [op_comm0] at U0
      have U1 := Lib.hid (fun va vb w h k => meet_any va vb b a (by omega) (by omega) w h k)
      rw [op_comm1] at U1
      clear OA OB
      go_enter Try.func9, Try.ntmps9
      go_wp2_with fail
      refine (spans_any _ a (by omega) w La.out).mono ?_
      rintro e w1 ⟨v_s, rfl, l_s, b1⟩
      have Lb := Lib.hid (Lb.out.below b1)
      have Ls := Lib.hid l_s
      have BB1 := Lib.hid (b1)
      clear l_s b1 La
      go_wp2_with fail
      refine (spans_any _ b (by omega) w1 Lb.out).mono ?_
      rintro e w2 ⟨v_t, rfl, l_t, b2⟩
      have Ls := Lib.hid (Ls.out.below b2)
      have Lt := Lib.hid l_t
      have BB2 := Lib.hid (BB1.out.trans (b2.mono BB1.out.size))
      clear l_t b2 BB1 Lb
      go_wp2_with fail
      refine (norm_any _ a (by omega) w2 Ls.out).mono ?_
      rintro e w3 ⟨v_n, rfl, l_n, b3⟩
      have Ls := Lib.hid (Ls.out.below b3)
      have Lt := Lib.hid (Lt.out.below b3)
      have Ln := Lib.hid l_n
      have BB3 := Lib.hid (BB2.out.trans (b3.mono BB2.out.size))
      clear l_n b3 BB2
      go_wp2_with fail
      refine (union_any _ _ a b (by omega) (by omega) w3 Ls.out Lt.out).mono ?_
      rintro e w4 ⟨v_u, rfl, l_u, b4⟩
      have Ls := Lib.hid (Ls.out.below b4)
      have Lt := Lib.hid (Lt.out.below b4)
      have Ln := Lib.hid (Ln.out.below b4)
      have Lu := Lib.hid l_u
      have BB4 := Lib.hid (BB3.out.trans (b4.mono BB3.out.size))
      clear l_u b4 BB3
      go_wp2_with fail
      refine (meet_any _ _ a b (by omega) (by omega) w4 Ls.out Lt.out).mono ?_
      rintro e w5 ⟨v_i, rfl, l_i, b5⟩
      have Ls := Lib.hid (Ls.out.below b5)
      have Lt := Lib.hid (Lt.out.below b5)
      have Ln := Lib.hid (Ln.out.below b5)
      have Lu := Lib.hid (Lu.out.below b5)
      have Li := Lib.hid l_i
      have BB5 := Lib.hid (BB4.out.trans (b5.mono BB4.out.size))
      clear l_i b5 BB4
      go_wp2_with fail
      refine (normal_any _ _ (by omega) N0.out w5 Ln.out).mono ?_
      rintro e w6 ⟨rfl, b6⟩
      have Ls := Lib.hid (Ls.out.below b6)
      have Lt := Lib.hid (Lt.out.below b6)
      have Ln := Lib.hid (Ln.out.below b6)
      have Lu := Lib.hid (Lu.out.below b6)
      have Li := Lib.hid (Li.out.below b6)
      have BB6 := Lib.hid (BB5.out.trans (b6.mono BB5.out.size))
      clear b6 BB5
      go_wp2_with fail
      refine (normal_any _ _ (hz 0) (NK.out 0) w6 Lu.out).mono ?_
      rintro e w7 ⟨rfl, b7⟩
      have Ls := Lib.hid (Ls.out.below b7)
      have Lt := Lib.hid (Lt.out.below b7)
      have Ln := Lib.hid (Ln.out.below b7)
      have Lu := Lib.hid (Lu.out.below b7)
      have Li := Lib.hid (Li.out.below b7)
      have BB7 := Lib.hid (BB6.out.trans (b7.mono BB6.out.size))
      clear b7 BB6
      go_wp2_with fail
      refine (normal_any _ _ (hz 1) (NK.out 1) w7 Li.out).mono ?_
      rintro e w8 ⟨rfl, b8⟩
      have Ls := Lib.hid (Ls.out.below b8)
      have Lt := Lib.hid (Lt.out.below b8)
      have Ln := Lib.hid (Ln.out.below b8)
      have Lu := Lib.hid (Lu.out.below b8)
      have Li := Lib.hid (Li.out.below b8)
      have BB8 := Lib.hid (BB7.out.trans (b8.mono BB7.out.size))
      clear b8 BB7
      go_wp2_with fail
      refine (sub_any _ _ a b (by omega) (by omega) w8 Ls.out Lt.out).mono ?_
      rintro e w9 ⟨v_d, rfl, l_d, b9⟩
      have Ls := Lib.hid (Ls.out.below b9)
      have Lt := Lib.hid (Lt.out.below b9)
      have Ln := Lib.hid (Ln.out.below b9)
      have Lu := Lib.hid (Lu.out.below b9)
      have Li := Lib.hid (Li.out.below b9)
      have Ld := Lib.hid l_d
      have BB9 := Lib.hid (BB8.out.trans (b9.mono BB8.out.size))
      clear l_d b9 BB8
      go_wp2_with fail
      refine (normal_any _ _ (hz 2) (NK.out 2) w9 Ld.out).mono ?_
      rintro e w10 ⟨rfl, b10⟩
      have Ls := Lib.hid (Ls.out.below b10)
      have Lt := Lib.hid (Lt.out.below b10)
      have Ln := Lib.hid (Ln.out.below b10)
      have Lu := Lib.hid (Lu.out.below b10)
      have Li := Lib.hid (Li.out.below b10)
      have BB10 := Lib.hid (BB9.out.trans (b10.mono BB9.out.size))
      clear b10 BB9 Ld
      go_wp2_with fail
      refine (NN.out _ w10 Ln.out).mono ?_
      rintro e w11 ⟨v_m, rfl, l_m, b11⟩
      have Ls := Lib.hid (Ls.out.below b11)
      have Lt := Lib.hid (Lt.out.below b11)
      have Ln := Lib.hid (Ln.out.below b11)
      have Lu := Lib.hid (Lu.out.below b11)
      have Li := Lib.hid (Li.out.below b11)
      have Lm := Lib.hid l_m
      have BB11 := Lib.hid (BB10.out.trans (b11.mono BB10.out.size))
      clear l_m b11 BB10
      go_wp2_with fail
      refine (same_any _ _ _ (by omega) w11 Lm.out Ln.out).mono ?_
      rintro e w12 ⟨rfl, b12⟩
      have Ls := Lib.hid (Ls.out.below b12)
      have Lt := Lib.hid (Lt.out.below b12)
      have Lu := Lib.hid (Lu.out.below b12)
      have Li := Lib.hid (Li.out.below b12)
      have BB12 := Lib.hid (BB11.out.trans (b12.mono BB11.out.size))
      clear b12 BB11 Lm Ln
      go_wp2_with fail
      refine (U0.out _ _ w12 Lt.out Ls.out).mono ?_
      rintro e w13 ⟨v_x, rfl, l_x, b13⟩
      have Ls := Lib.hid (Ls.out.below b13)
      have Lt := Lib.hid (Lt.out.below b13)
      have Lu := Lib.hid (Lu.out.below b13)
      have Li := Lib.hid (Li.out.below b13)
      have Lx := Lib.hid l_x
      have BB13 := Lib.hid (BB12.out.trans (b13.mono BB12.out.size))
      clear l_x b13 BB12
      go_wp2_with fail
      refine (same_any _ _ _ (hz 0) w13 Lx.out Lu.out).mono ?_
      rintro e w14 ⟨rfl, b14⟩
      have Ls := Lib.hid (Ls.out.below b14)
      have Lt := Lib.hid (Lt.out.below b14)
      have Li := Lib.hid (Li.out.below b14)
      have BB14 := Lib.hid (BB13.out.trans (b14.mono BB13.out.size))
      clear b14 BB13 Lx Lu
      go_wp2_with fail
      refine (U1.out _ _ w14 Lt.out Ls.out).mono ?_
      rintro e w15 ⟨v_y, rfl, l_y, b15⟩
      have Li := Lib.hid (Li.out.below b15)
      have Ly := Lib.hid l_y
      have BB15 := Lib.hid (BB14.out.trans (b15.mono BB14.out.size))
      clear l_y b15 BB14 Ls Lt
      go_wp2_with fail
      refine (same_any _ _ _ (hz 1) w15 Ly.out Li.out).mono ?_
      rintro e w16 ⟨rfl, b16⟩
      have BB16 := Lib.hid (BB15.out.trans (b16.mono BB15.out.size))
      clear b16 BB15 Ly Li
      go_wp2_with fail
      refine (ex_any w16).mono ?_
      rintro e w17 ⟨rfl, b17⟩
      have BB17 := Lib.hid (BB16.out.trans (b17.mono BB16.out.size))
      clear b17 BB16
      go_wp2_with fail
      go_ret
      exact ⟨rfl, BB17.out⟩
end Go.Proofs.Ytmlmdggfcdakhaa
