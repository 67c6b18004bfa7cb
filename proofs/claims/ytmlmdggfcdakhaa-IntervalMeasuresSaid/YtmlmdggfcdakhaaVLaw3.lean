/-
  The law IntervalMeasures: true for every input, nothing that existed has changed. Condition: the ends are ints.
-/
import Derived.Test.YtmlmdggfcdakhaaVLaw2
namespace Go.Proofs.Ytmlmdggfcdakhaa
open Go.RowKit

theorem len_small (v : Value) (l : List Sp) (hl : l.length ≤ 1000000) (ok : OkS l) (h9 : lenS l ≤ 9223372036854775807) (w : World) (h : LstV w v l) : Calls Try.prog 22 #[v] w fun e w' => e = .returned (.tuple #[.int .i64 (lenS l), .bool true]) ∧ Below w.heap.size w w' := by
  have C := len_any v l hl ok w h
  rw [if_pos h9, decide_eq_true h9] at C
  exact C
theorem bnd_ok {l : List Sp} (h : bndS l = true) : OkS l := fun s hs => by have := bnd_iff h s hs; omega
theorem bnd_len {l : List Sp} (h : bndS l = true) : 0 ≤ lenS l ∧ lenS l ≤ 2199023255552 := by
  have := lenS_low (l := l) (lo := -1099511627776) (hi := -1099511627776 + ((2199023255552 : Nat) : Int)) (by omega) (bnd_iff h)
  omega
theorem bnd_op {a b : List Sp} (k : Nat) (ha : bndS a = true) (hb : bndS b = true) : 0 ≤ lenS (opS (opF k a b) a b) ∧ lenS (opS (opF k a b) a b) ≤ 2199023255552 := by
  have := lenS_low (l := opS (opF k a b) a b) (lo := -1099511627776) (hi := -1099511627776 + ((2199023255552 : Nat) : Int)) (by omega) (op_ends (Q := fun x => (-1099511627776 : Int) ≤ x ∧ x ≤ -1099511627776 + ((2199023255552 : Nat) : Int)) (opF_opr k a b) (bnd_iff ha) (bnd_iff hb))
  omega
set_option maxRecDepth 100000 in
set_option maxHeartbeats 16000000 in
theorem meas_law (va : Value) (a : List Sp) (_ : a.length ≤ 9223372036854775807) (oka : OkS a) (vb : Value) (b : List Sp) (_ : b.length ≤ 9223372036854775807) (okb : OkS b) (w : World) (hA : LstV w va a) (hB : LstV w vb b) : Calls Try.prog 10 #[va, vb] w fun e w' => e = .returned (.bool true) ∧ Below w.heap.size w w' := by
  have hh := hA
  obtain ⟨A, ca, rfl, -⟩ := hh
  have hh := hB
  obtain ⟨B, cb, rfl, -⟩ := hh
  have La := Lib.hid hA
  have Lb := Lib.hid hB
  have OA := Lib.hid oka
  have OB := Lib.hid okb
  clear hA hB oka okb
  by_cases h1 : (60 : Int) < (a.length : Int)
  · clear La Lb OA OB
    go_enter Try.func10, Try.ntmps10
    go_wp2_with fail
    refine (ex_any _).mono ?_
    rintro e w1 ⟨rfl, b1⟩
    have BB := Lib.hid b1
    clear b1
    go_wp2_with fail
    go_ret
    exact ⟨rfl, BB.out⟩
  · have ha : a.length ≤ 60 := by omega
    have d1 : decide ((60 : Int) < (a.length : Int)) = false := decide_eq_false h1
    clear h1
    by_cases h2 : (60 : Int) < (b.length : Int)
    · clear La Lb OA OB
      go_enter Try.func10, Try.ntmps10
      go_wp2_with fail
      refine (ex_any _).mono ?_
      rintro e w1 ⟨rfl, b1⟩
      have BB := Lib.hid b1
      clear b1
      go_wp2_with fail
      go_ret
      exact ⟨rfl, BB.out⟩
    · have hb : b.length ≤ 60 := by omega
      have d2 : decide ((60 : Int) < (b.length : Int)) = false := decide_eq_false h2
      clear h2
      have KA := Lib.hid (fun w h => bounded_any (.slice A a.length ca) a (by omega) w h)
      have KB := Lib.hid (fun w h => bounded_any (.slice B b.length cb) b (by omega) w h)
      rcases (by cases bndS a <;> simp : bndS a = false ∨ bndS a = true) with pa | pa
      · rw [pa] at KA
        have KAA := Lib.hid (KA.out w La.out)
        clear La Lb OA OB KA KB pa
        go_enter Try.func10, Try.ntmps10
        go_wp2_with fail
        refine KAA.out.mono ?_
        rintro e w' ⟨rfl, rfl⟩
        clear KAA
        go_wp2_with fail
        refine (ex_any _).mono ?_
        rintro e w1 ⟨rfl, b1⟩
        have BB := Lib.hid b1
        clear b1
        go_wp2_with fail
        go_ret
        exact ⟨rfl, BB.out⟩
      · rcases (by cases bndS b <;> simp : bndS b = false ∨ bndS b = true) with pb | pb
        · rw [pa] at KA
          rw [pb] at KB
          have KAA := Lib.hid (KA.out w La.out)
          have KBB := Lib.hid (KB.out w Lb.out)
          clear La Lb OA OB KA KB pa pb
          go_enter Try.func10, Try.ntmps10
          go_wp2_with fail
          refine KAA.out.mono ?_
          rintro e w' ⟨rfl, rfl⟩
          clear KAA
          go_wp2_with fail
          refine KBB.out.mono ?_
          rintro e w' ⟨rfl, rfl⟩
          clear KBB
          go_wp2_with fail
          refine (ex_any _).mono ?_
          rintro e w1 ⟨rfl, b1⟩
          have BB := Lib.hid b1
          clear b1
          go_wp2_with fail
          go_ret
          exact ⟨rfl, BB.out⟩
        · rw [pa] at KA
          rw [pb] at KB
          have KAA := Lib.hid (KA.out w La.out)
          have KBB := Lib.hid (KB.out w Lb.out)
          have M := measures (bnd_iff pa) (bnd_iff pb)
          rw [← opF_0, ← opF_1, ← opF_2] at M
          have hz : ∀ k, (opS (opF k a b) a b).length ≤ 1000000 := fun k => by have := op_len (opF k a b) a b; omega
          have oo : ∀ k, OkS (opS (opF k a b) a b) := fun k => OkS.op (opF_opr k a b) (bnd_ok pa) (bnd_ok pb)
          have xa := bnd_len pa
          have xb := bnd_len pb
          have x0 := bnd_op 0 pa pb
          have x1 := bnd_op 1 pa pb
          have x2 := bnd_op 2 pa pb
          have SA := Lib.hid (fun v w h => len_small v a (by omega) (bnd_ok pa) (by omega) w h)
          have SB := Lib.hid (fun v w h => len_small v b (by omega) (bnd_ok pb) (by omega) w h)
          have S0 := Lib.hid (fun v w h => len_small v _ (hz 0) (oo 0) (by omega) w h)
          have S1 := Lib.hid (fun v w h => len_small v _ (hz 1) (oo 1) (by omega) w h)
          have S2 := Lib.hid (fun v w h => len_small v _ (hz 2) (oo 2) (by omega) w h)
          generalize lenS a = x at SA M xa
          generalize lenS b = y at SB M xb
          generalize lenS (opS (opF 0 a b) a b) = u at S0 M x0
          generalize lenS (opS (opF 1 a b) a b) = i at S1 M x1
          generalize lenS (opS (opF 2 a b) a b) = d at S2 M x2
          have k1 : IntKind.i64.wrap (u + i) = u + i := IntWalk.i64_in _ (by omega)
          have k2 : IntKind.i64.wrap (x + y) = x + y := IntWalk.i64_in _ (by omega)
          have k3 : IntKind.i64.wrap (i + d) = i + d := IntWalk.i64_in _ (by omega)
          have q1 : (u + i == x + y) = true := beq_true (by omega)
          have q2 : (i + d == x) = true := beq_true (by omega)
          clear KA KB pa pb OA OB M hz oo xa xb x0 x1 x2
          go_enter Try.func10, Try.ntmps10
          go_wp2_with fail
          refine KAA.out.mono ?_
          rintro e w' ⟨rfl, rfl⟩
          clear KAA
          go_wp2_with fail
          refine KBB.out.mono ?_
          rintro e w' ⟨rfl, rfl⟩
          clear KBB
          go_wp2_with fail
          refine (spans_any _ a (by omega) _ La.out).mono ?_
          rintro e w1 ⟨v_s, rfl, l_s, b1⟩
          have Lb := Lib.hid (Lb.out.below b1)
          have Ls := Lib.hid l_s
          have BB1 := Lib.hid (b1)
          clear l_s b1 La
          go_wp2_with fail
          refine (spans_any _ b (by omega) w1 Lb.out).mono ?_
          rintro e w2 ⟨v_t, rfl, l_t, b2⟩
          have Ls := Lib.hid (Ls.out.below b2)
          have Lt := Lib.hid l_t
          have BB2 := Lib.hid (BB1.out.trans (b2.mono BB1.out.size))
          clear l_t b2 BB1 Lb
          go_wp2_with fail
          refine (SA.out _ w2 Ls.out).mono ?_
          rintro e w3 ⟨rfl, b3⟩
          have Ls := Lib.hid (Ls.out.below b3)
          have Lt := Lib.hid (Lt.out.below b3)
          have BB3 := Lib.hid (BB2.out.trans (b3.mono BB2.out.size))
          clear b3 BB2
          go_wp2_with fail
          refine (SB.out _ w3 Lt.out).mono ?_
          rintro e w4 ⟨rfl, b4⟩
          have Ls := Lib.hid (Ls.out.below b4)
          have Lt := Lib.hid (Lt.out.below b4)
          have BB4 := Lib.hid (BB3.out.trans (b4.mono BB3.out.size))
          clear b4 BB3
          go_wp2_with fail
          refine (union_any _ _ a b (by omega) (by omega) w4 Ls.out Lt.out).mono ?_
          rintro e w5 ⟨v_u0, rfl, l_u0, b5⟩
          have Ls := Lib.hid (Ls.out.below b5)
          have Lt := Lib.hid (Lt.out.below b5)
          have Lu0 := Lib.hid l_u0
          have BB5 := Lib.hid (BB4.out.trans (b5.mono BB4.out.size))
          clear l_u0 b5 BB4
          go_wp2_with fail
          refine (S0.out _ w5 Lu0.out).mono ?_
          rintro e w6 ⟨rfl, b6⟩
          have Ls := Lib.hid (Ls.out.below b6)
          have Lt := Lib.hid (Lt.out.below b6)
          have BB6 := Lib.hid (BB5.out.trans (b6.mono BB5.out.size))
          clear b6 BB5 Lu0
          go_wp2_with fail
          refine (meet_any _ _ a b (by omega) (by omega) w6 Ls.out Lt.out).mono ?_
          rintro e w7 ⟨v_u1, rfl, l_u1, b7⟩
          have Ls := Lib.hid (Ls.out.below b7)
          have Lt := Lib.hid (Lt.out.below b7)
          have Lu1 := Lib.hid l_u1
          have BB7 := Lib.hid (BB6.out.trans (b7.mono BB6.out.size))
          clear l_u1 b7 BB6
          go_wp2_with fail
          refine (S1.out _ w7 Lu1.out).mono ?_
          rintro e w8 ⟨rfl, b8⟩
          have Ls := Lib.hid (Ls.out.below b8)
          have Lt := Lib.hid (Lt.out.below b8)
          have BB8 := Lib.hid (BB7.out.trans (b8.mono BB7.out.size))
          clear b8 BB7 Lu1
          go_wp2_with fail
          refine (sub_any _ _ a b (by omega) (by omega) w8 Ls.out Lt.out).mono ?_
          rintro e w9 ⟨v_u2, rfl, l_u2, b9⟩
          have Lu2 := Lib.hid l_u2
          have BB9 := Lib.hid (BB8.out.trans (b9.mono BB8.out.size))
          clear l_u2 b9 BB8 Ls Lt
          go_wp2_with fail
          refine (S2.out _ w9 Lu2.out).mono ?_
          rintro e w10 ⟨rfl, b10⟩
          have BB10 := Lib.hid (BB9.out.trans (b10.mono BB9.out.size))
          clear b10 BB9 Lu2
          go_wp2_with fail
          refine (ex_any w10).mono ?_
          rintro e w11 ⟨rfl, b11⟩
          have BB11 := Lib.hid (BB10.out.trans (b11.mono BB10.out.size))
          clear b11 BB10
          go_wp2_with fail
          go_ret
          exact ⟨rfl, BB11.out⟩
end Go.Proofs.Ytmlmdggfcdakhaa
