/-
  The laws CallChecks, CallShifts, CallRidable, CallRides, CallLists, CallEquals: each answers true for every input; nothing that existed before the call has changed behind it. Condition: none beyond lengths of 63 bits.
-/
import Derived.Test.YtgdlibmgmokfaaaWEx
import Derived.Test.YtgdlibmgmokfaaaWRChk
import Derived.Test.YtgdlibmgmokfaaaWRef
import Derived.Lib.MinMax
namespace Go.Proofs.Ytgdlibmgmokfaaa
open Go.RowKit

/-- What is asked of the calls among the arguments: nothing. -/
def OkC (l : List Cl) : Prop := ∀ x ∈ l, (fun _ : Cl => True) x
/-- Three bounds in a box. -/
theorem box_bd {w w7 : World} {a b c : Int} (h : w.alloc (.cells #[.int .i64 a, .int .i64 b, .int .i64 c] 24 (0, 0)) = w7) :
    Below w.heap.size w w7 ∧ (∀ W, Below w7.heap.size w7 W → W.cell? ⟨w.heap.size, 0, none⟩ = some (.int .i64 a) ∧ W.cell? ⟨w.heap.size, 1, none⟩ = some (.int .i64 b) ∧ W.cell? ⟨w.heap.size, 2, none⟩ = some (.int .i64 c)) := by
  subst h
  have c7 := heap_alloc_new w (.cells #[.int .i64 a, .int .i64 b, .int .i64 c] 24 (0, 0))
  refine ⟨(Below.refl _ _).alloc (Nat.le_refl _) _, fun W hW => ?_⟩
  have c8 := (hW.block w.heap.size (by simp)).trans c7
  exact ⟨by rw [cell_of_row _ _ 0 _ _ _ c8]; rfl, by rw [cell_of_row _ _ 1 _ _ _ c8]; rfl, by rw [cell_of_row _ _ 2 _ _ _ c8]; rfl⟩
set_option maxRecDepth 100000 in
set_option maxHeartbeats 8000000 in
theorem checks_law (v : Value) (l : List Cl) (hl : l.length ≤ 9223372036854775807) (_ : OkC l) (st lo hi : Int) (w : World) (h : LstC w v l) : Calls Try.prog 3 #[v, .agg #[.int .i64 st, .int .i64 lo, .int .i64 hi]] w fun e w' => e = .returned (.bool true) ∧ Below w.heap.size w w' := by
  have E := Lib.hid (fun W => ex_any W)
  obtain ⟨w0, hw0⟩ : ∃ W, w.alloc (.cells #[.int .i64 st, .int .i64 lo, .int .i64 hi] 24 (0, 0)) = W := ⟨_, rfl⟩
  obtain ⟨b0, P⟩ := box_bd hw0
  have H := Lib.hid (h.below b0)
  have B0 := Lib.hid b0
  obtain ⟨A, c, rfl, -, -, -⟩ := h
  by_cases c1 : 100 < l.length
  · have g : (100 : Int) < (l.length : Int) := by omega
    clear hl P H c1 b0
    go_enter Try.func3, Try.ntmps3
    go_wp2_with fail
    refine (E.out _).mono ?_
    rintro e w1 ⟨rfl, b1⟩
    have B1 : Hid (Below w.heap.size w w1) := B0.out.trans (b1.mono B0.out.size)
    clear b1 E
    go_wp2_with fail
    go_ret
    exact ⟨rfl, B1.out⟩
  have g : decide ((100 : Int) < (l.length : Int)) = false := by rw [decide_eq_false_iff_not]; omega
  have C := Lib.hid (kcheck_any _ l hl st lo hi w0 H.out)
  have R := Lib.hid (fun W hW => rcheck_any (.slice A l.length c) l hl st lo hi W hW)
  generalize (chkC st lo hi l).1 = p at C R
  generalize (chkC st lo hi l).2 = q at C R
  have t1 := beq_true (a := p) rfl
  have t2 := beq_true (a := q) rfl
  have HP := Lib.hid P
  obtain ⟨p0, p1, p2⟩ := P w0 (Below.refl _ _)
  clear hl c1 P b0
  go_enter Try.func3, Try.ntmps3
  go_wp2_with fail
  refine C.out.mono ?_
  rintro e w1 ⟨rfl, b1⟩
  obtain ⟨q0, q1, q2⟩ := HP.out w1 b1
  have B1 : Hid (Below w.heap.size w w1) := B0.out.trans (b1.mono B0.out.size)
  have H1 := Lib.hid (H.out.below b1)
  clear b1 C p0 p1 p2 B0 H HP
  go_wp2_with fail
  refine (R.out w1 H1.out).mono ?_
  rintro e w2 ⟨rfl, b2⟩
  have B2 : Hid (Below w.heap.size w w2) := B1.out.trans (b2.mono B1.out.size)
  clear b2 B1 R H1 q0 q1 q2
  go_wp2_with fail
  refine (E.out _).mono ?_
  rintro e w3 ⟨rfl, b3⟩
  have B3 := Lib.hid (B2.out.trans (b3.mono B2.out.size))
  clear b3 E
  go_wp2_with fail
  go_ret
  exact ⟨rfl, B3.out⟩
set_option maxRecDepth 100000 in
set_option maxHeartbeats 8000000 in
theorem shifts_law (v : Value) (l : List Cl) (_ : l.length ≤ 9223372036854775807) (_ : OkC l) (z : Int) (w : World) (h : LstC w v l) : Calls Try.prog 4 #[v, .int .i64 z] w fun e w' => e = .returned (.bool true) ∧ Below w.heap.size w w' := by
  have E := Lib.hid (fun W => ex_any W)
  have H := Lib.hid h
  obtain ⟨A, c, rfl, -, -, -⟩ := h
  by_cases c1 : 100 < l.length
  · have g : (100 : Int) < (l.length : Int) := by omega
    clear H c1
    go_enter Try.func4, Try.ntmps4
    go_wp2_with fail
    refine (E.out _).mono ?_
    rintro e w1 ⟨rfl, b1⟩
    have B1 := Lib.hid b1
    clear b1 E
    go_wp2_with fail
    go_ret
    exact ⟨rfl, B1.out⟩
  have g : decide ((100 : Int) < (l.length : Int)) = false := by rw [decide_eq_false_iff_not]; omega
  have hl2 : l.length ≤ 100 := by omega
  have C := Lib.hid (kshift_any _ l (by omega) z w H.out)
  have R := Lib.hid (fun W hW => rshift_any (.slice A l.length c) l (by omega) z W hW)
  have hs : (shC z l).length ≤ 1099511627776 := by rw [shC_len]; omega
  generalize shC z l = s at C R hs
  have Q := Lib.hid (fun (u v : Value) (W : World) h1 h2 => Calls.below (requal_any u v s s hs W h1 h2))
  rw [decide_eq_true rfl] at Q
  clear c1 hl2 hs
  go_enter Try.func4, Try.ntmps4
  go_wp2_with fail
  refine C.out.mono ?_
  rintro e w1 ⟨v1, rfl, o1, b1⟩
  have B1 := Lib.hid b1
  have O1 := Lib.hid (OwnG.lst o1)
  have H1 := Lib.hid (H.out.below b1)
  clear b1 o1 C H
  go_wp2_with fail
  refine (R.out w1 H1.out).mono ?_
  rintro e w2 ⟨v2, rfl, o2, b2⟩
  have B2 := Lib.hid (B1.out.trans (b2.mono B1.out.size))
  have O2 := Lib.hid (OwnG.lst o2)
  have O3 := Lib.hid (O1.out.below b2)
  clear b2 o2 R H1 O1 B1
  go_wp2_with fail
  refine (Q.out _ _ w2 O3.out O2.out).mono ?_
  rintro e w3 ⟨rfl, b3⟩
  have B3 := Lib.hid (B2.out.trans (b3.mono B2.out.size))
  clear b3 O2 O3 Q B2
  go_wp2_with fail
  refine (E.out _).mono ?_
  rintro e w4 ⟨rfl, b4⟩
  have B4 := Lib.hid (B3.out.trans (b4.mono B3.out.size))
  clear b4 E
  go_wp2_with fail
  go_ret
  exact ⟨rfl, B4.out⟩
set_option maxRecDepth 100000 in
set_option maxHeartbeats 8000000 in
theorem ridable_law (v : Value) (l : List Cl) (_ : l.length ≤ 9223372036854775807) (_ : OkC l) (i k : Int) (w : World) (h : LstC w v l) : Calls Try.prog 5 #[v, .int .i64 i, .int .i64 k] w fun e w' => e = .returned (.bool true) ∧ Below w.heap.size w w' := by
  have E := Lib.hid (fun W => ex_any W)
  have H := Lib.hid h
  obtain ⟨A, c, rfl, -, -, -⟩ := h
  by_cases c1 : 100 < l.length
  · have g : (100 : Int) < (l.length : Int) := by omega
    clear H c1
    go_enter Try.func5, Try.ntmps5
    go_wp2_with fail
    refine (E.out _).mono ?_
    rintro e w1 ⟨rfl, b1⟩
    have B1 := Lib.hid b1
    clear b1 E
    go_wp2_with fail
    go_ret
    exact ⟨rfl, B1.out⟩
  have g : decide ((100 : Int) < (l.length : Int)) = false := by rw [decide_eq_false_iff_not]; omega
  have C := Lib.hid (krid_any _ l i k w H.out)
  have R := Lib.hid (rrid_any _ l i k w H.out)
  generalize rdB l i k = q at C R
  have t1 : (q == q) = true := by simp
  clear H c1
  go_enter Try.func5, Try.ntmps5
  go_wp2_with fail
  refine C.out.mono ?_
  rintro e w' ⟨rfl, rfl⟩
  clear C
  go_wp2_with fail
  refine R.out.mono ?_
  rintro e w' ⟨rfl, rfl⟩
  clear R
  go_wp2_with fail
  refine (E.out _).mono ?_
  rintro e w1 ⟨rfl, b1⟩
  have B1 := Lib.hid b1
  clear b1 E
  go_wp2_with fail
  go_ret
  exact ⟨rfl, B1.out⟩
set_option maxRecDepth 100000 in
set_option maxHeartbeats 8000000 in
theorem lists_law (v : Value) (l : List Cl) (hl : l.length ≤ 9223372036854775807) (_ : OkC l) (st : Int) (w : World) (h : LstC w v l) : Calls Try.prog 7 #[v, .int .i64 st] w fun e w' => e = .returned (.bool true) ∧ Below w.heap.size w w' := by
  have E := Lib.hid (fun W => ex_any W)
  have H := Lib.hid h
  obtain ⟨A, c, rfl, -, -, -⟩ := h
  by_cases c1 : 100 < l.length
  · have g : (100 : Int) < (l.length : Int) := by omega
    clear H c1 hl
    go_enter Try.func7, Try.ntmps7
    go_wp2_with fail
    refine (E.out _).mono ?_
    rintro e w1 ⟨rfl, b1⟩
    have B1 := Lib.hid b1
    clear b1 E
    go_wp2_with fail
    go_ret
    exact ⟨rfl, B1.out⟩
  have g : decide ((100 : Int) < (l.length : Int)) = false := by rw [decide_eq_false_iff_not]; omega
  have hl2 : l.length ≤ 100 := by omega
  have C := Lib.hid (kat_any _ l (by omega) st w H.out)
  have R := Lib.hid (fun W hW => rat_any (.slice A l.length c) l (by omega) st W hW)
  have K := Lib.hid (fun W hW => Calls.below (kdur_any (.slice A l.length c) l hl W hW))
  have D := Lib.hid (fun W hW => Calls.below (rdur_any (.slice A l.length c) l hl W hW))
  have hs : (ixs (atC st) l).length ≤ 1099511627776 := Nat.le_trans (ix_le _ _) (by omega)
  generalize ixs (atC st) l = s at C R hs
  generalize durC l = q at K D
  have t1 := beq_true (a := q) rfl
  have Q := Lib.hid (fun (u v : Value) (W : World) h1 h2 => Calls.below (same_any u v s s hs W h1 h2))
  rw [decide_eq_true rfl] at Q
  clear c1 hl2 hs hl
  go_enter Try.func7, Try.ntmps7
  go_wp2_with fail
  refine C.out.mono ?_
  rintro e w1 ⟨v1, rfl, o1, b1⟩
  have B1 := Lib.hid b1
  have O1 := Lib.hid (OwnI.lst o1)
  have H1 := Lib.hid (H.out.below b1)
  clear b1 o1 C H
  go_wp2_with fail
  refine (R.out w1 H1.out).mono ?_
  rintro e w2 ⟨v2, rfl, o2, b2⟩
  have B2 := Lib.hid (B1.out.trans (b2.mono B1.out.size))
  have O2 := Lib.hid (OwnI.lst o2)
  have O3 := Lib.hid (O1.out.below b2)
  have H2 := Lib.hid (H1.out.below b2)
  clear b2 o2 R H1 O1 B1
  go_wp2_with fail
  refine (Q.out _ _ w2 O3.out O2.out).mono ?_
  rintro e w3 ⟨rfl, b3⟩
  have B3 := Lib.hid (B2.out.trans (b3.mono B2.out.size))
  have H3 := Lib.hid (H2.out.below b3)
  clear b3 O2 O3 Q B2 H2
  go_wp2_with fail
  refine (K.out w3 H3.out).mono ?_
  rintro e w4 ⟨rfl, b4⟩
  have B4 := Lib.hid (B3.out.trans (b4.mono B3.out.size))
  have H4 := Lib.hid (H3.out.below b4)
  clear b4 B3 H3 K
  go_wp2_with fail
  refine (D.out w4 H4.out).mono ?_
  rintro e w5 ⟨rfl, b5⟩
  have B5 := Lib.hid (B4.out.trans (b5.mono B4.out.size))
  clear b5 B4 H4 D
  go_wp2_with fail
  refine (E.out _).mono ?_
  rintro e w6 ⟨rfl, b6⟩
  have B6 := Lib.hid (B5.out.trans (b6.mono B5.out.size))
  clear b6 E
  go_wp2_with fail
  go_ret
  exact ⟨rfl, B6.out⟩
set_option maxRecDepth 100000 in
set_option maxHeartbeats 8000000 in
theorem equals_law (v : Value) (l : List Cl) (_ : l.length ≤ 9223372036854775807) (_ : OkC l) (v2 : Value) (m : List Cl) (_ : m.length ≤ 9223372036854775807) (_ : OkC m) (w : World) (h : LstC w v l) (h2 : LstC w v2 m) : Calls Try.prog 8 #[v, v2] w fun e w' => e = .returned (.bool true) ∧ Below w.heap.size w w' := by
  have E := Lib.hid (fun W => ex_any W)
  have H := Lib.hid h
  have H2 := Lib.hid h2
  obtain ⟨A, c, rfl, -, -, -⟩ := h
  obtain ⟨A2, d2, rfl, -, -, -⟩ := h2
  by_cases c1 : 100 < l.length
  · have g : (100 : Int) < (l.length : Int) := by omega
    clear H c1 H2
    go_enter Try.func8, Try.ntmps8
    go_wp2_with fail
    refine (E.out _).mono ?_
    rintro e w1 ⟨rfl, b1⟩
    have B1 := Lib.hid b1
    clear b1 E
    go_wp2_with fail
    go_ret
    exact ⟨rfl, B1.out⟩
  have g : decide ((100 : Int) < (l.length : Int)) = false := by rw [decide_eq_false_iff_not]; omega
  by_cases c2 : 100 < m.length
  · have g2 : (100 : Int) < (m.length : Int) := by omega
    clear H c1 H2 c2
    go_enter Try.func8, Try.ntmps8
    go_wp2_with fail
    refine (E.out _).mono ?_
    rintro e w1 ⟨rfl, b1⟩
    have B1 := Lib.hid b1
    clear b1 E
    go_wp2_with fail
    go_ret
    exact ⟨rfl, B1.out⟩
  have g2 : decide ((100 : Int) < (m.length : Int)) = false := by rw [decide_eq_false_iff_not]; omega
  have C := Lib.hid (Calls.below (kequal_any _ _ l m (by omega) w H.out H2.out))
  have R := Lib.hid (fun W hW hW2 => Calls.below (requal_any (.slice A l.length c) (.slice A2 m.length d2) l m (by omega) W hW hW2))
  have Q := Lib.hid (fun W hW => Calls.below (kequal_any (.slice A l.length c) (.slice A l.length c) l l (by omega) W hW hW))
  rw [decide_eq_true rfl] at Q
  generalize decide (l = m) = q at C R
  have t1 : (q == q) = true := by simp
  clear c1 c2
  go_enter Try.func8, Try.ntmps8
  go_wp2_with fail
  refine C.out.mono ?_
  rintro e w1 ⟨rfl, b1⟩
  have B1 := Lib.hid b1
  have H1 := Lib.hid (H.out.below b1)
  have H3 := Lib.hid (H2.out.below b1)
  clear b1 C H H2
  go_wp2_with fail
  refine (R.out w1 H1.out H3.out).mono ?_
  rintro e w2 ⟨rfl, b2⟩
  have B2 := Lib.hid (B1.out.trans (b2.mono B1.out.size))
  have H2 := Lib.hid (H1.out.below b2)
  clear b2 R H1 H3 B1
  go_wp2_with fail
  refine (Q.out w2 H2.out).mono ?_
  rintro e w3 ⟨rfl, b3⟩
  have B3 := Lib.hid (B2.out.trans (b3.mono B2.out.size))
  clear b3 Q H2 B2
  go_wp2_with fail
  refine (E.out _).mono ?_
  rintro e w4 ⟨rfl, b4⟩
  have B4 := Lib.hid (B3.out.trans (b4.mono B3.out.size))
  clear b4 E
  go_wp2_with fail
  go_ret
  exact ⟨rfl, B4.out⟩
set_option maxRecDepth 100000 in
set_option maxHeartbeats 8000000 in
theorem rides_law (v : Value) (l : List Cl) (_ : l.length ≤ 9223372036854775807) (_ : OkC l) (n : Int) (w : World) (h : LstC w v l) : Calls Try.prog 6 #[v, .int .i64 n] w fun e w' => e = .returned (.bool true) ∧ Below w.heap.size w w' := by
  have E := Lib.hid (fun W => ex_any W)
  have H := Lib.hid h
  obtain ⟨A, c, rfl, -, -, -⟩ := h
  by_cases c1 : 60 < l.length
  · have g : (60 : Int) < (l.length : Int) := by omega
    clear H c1
    go_enter Try.func6, Try.ntmps6
    go_wp2_with fail
    refine (E.out _).mono ?_
    rintro e w1 ⟨rfl, b1⟩
    have B1 := Lib.hid b1
    clear b1 E
    go_wp2_with fail
    go_ret
    exact ⟨rfl, B1.out⟩
  have g : decide ((60 : Int) < (l.length : Int)) = false := by rw [decide_eq_false_iff_not]; omega
  by_cases n0 : n < 0
  · clear H c1
    go_enter Try.func6, Try.ntmps6
    go_wp2_with fail
    refine (E.out _).mono ?_
    rintro e w1 ⟨rfl, b1⟩
    have B1 := Lib.hid b1
    clear b1 E
    go_wp2_with fail
    go_ret
    exact ⟨rfl, B1.out⟩
  have g0 : decide (n < 0) = false := decide_eq_false n0
  by_cases n1 : 4000 < n
  · clear H c1 n0
    go_enter Try.func6, Try.ntmps6
    go_wp2_with fail
    refine (E.out _).mono ?_
    rintro e w1 ⟨rfl, b1⟩
    have B1 := Lib.hid b1
    clear b1 E
    go_wp2_with fail
    go_ret
    exact ⟨rfl, B1.out⟩
  have g1 : decide (4000 < n) = false := decide_eq_false n1
  obtain ⟨m, rfl⟩ := Int.eq_ofNat_of_zero_le (show 0 ≤ n by omega)
  have hl2 : l.length ≤ 60 := by omega
  have C := Lib.hid (rides_any _ l hl2 m w H.out)
  have R := Lib.hid (fun W hW => rrides_any (.slice A l.length c) l hl2 W hW)
  have hsm : (prsC l).length ≤ 3600 := Nat.le_trans (prs_le l) (Nat.mul_le_mul hl2 hl2)
  generalize prsC l = s at C R hsm
  obtain ⟨k, hk⟩ : ∃ k, (s.take m).length = k := ⟨_, rfl⟩
  have hmin : min (m : Int) (s.length : Int) = (k : Int) := by
    rw [List.length_take] at hk
    omega
  have hks : k ≤ s.length := by
    rw [List.length_take] at hk
    omega
  have HK := Lib.hid hk
  have HKS := Lib.hid hks
  have gk3 : k ≤ 3600 := by omega
  have ne := neq_false (a := (k : Int)) rfl
  clear c1 hl2 n0 n1 hk hks
  go_enter Try.func6, Try.ntmps6
  go_wp2_with fail
  refine C.out.mono ?_
  rintro e w1 ⟨v1, rfl, o1, b1⟩
  have B1 := Lib.hid b1
  have H1 := Lib.hid (H.out.below b1)
  have L1 := o1.lst
  obtain ⟨A1, d1, rfl, -, -, -⟩ := id L1
  rw [HK.out] at L1
  simp only [HK.out]
  have O1 := Lib.hid L1
  clear b1 o1 C H L1
  go_wp2_with fail
  refine (R.out w1 H1.out).mono ?_
  rintro e w2 ⟨v2, rfl, o2, b2⟩
  have B2 := Lib.hid (B1.out.trans (b2.mono B1.out.size))
  have O3 := Lib.hid (O1.out.below b2)
  have L2 := o2.lst
  obtain ⟨A2, d2, rfl, -, -, -⟩ := id L2
  have O2 := Lib.hid L2
  clear b2 o2 R H1 O1 B1 L2 hsm
  go_wp2_with fail
  clear hmin ne
  go_loopw [42] (fun i wr => ∃ j : Nat, i = .int .i64 (j : Int) ∧ j ≤ k ∧ Hid (∃ q, wr = w2.drewN q)) (fun i _ => k - (intOf i).toNat)
  case atStart => exact ⟨0, rfl, Nat.zero_le _, Lib.hid ⟨0, rfl⟩⟩
  case round =>
    obtain ⟨j, rfl, hj, hn⟩ := hrel
    by_cases hjk : j < k
    · have hsk := HKS.out
      obtain ⟨⟨x, y⟩, hx⟩ := at_lt (l := s) (show j < s.length by omega)
      have hx2 : (s.take m)[j]? = some (x, y) := by
        have hkk := HK.out
        rw [List.length_take] at hkk
        rw [List.getElem?_take, if_pos (by omega)]
        exact hx
      obtain ⟨b1, f1, rfl, hb1, r0, r1⟩ := two_at (O3.out.below (drew_below hn.out)) hx2
      obtain ⟨b2, f2, rfl, hb2, q0, q1⟩ := two_at (O2.out.below (drew_below hn.out)) hx
      have gj : (j : Int) < (k : Int) := by omega
      have gj2 : (j : Int) < (s.length : Int) := by omega
      have NE := neq_pr (x : Int) (y : Int) (x : Int) (y : Int) false (by simp)
      clear hx hx2 hb1 hb2 hsk
      go_wp2_with fail
      go_quiet (fail)
      go_wp2_with fail
      go_roundw
      case rel => exact ⟨j + 1, by go_num, by omega, drew_on hn nq⟩
      case measure => simp [intOf]; omega
    · have dj : decide (j < k) = false := by rw [decide_eq_false_iff_not]; exact hjk
      have B3 := Lib.hid (B2.out.trans ((drew_below hn.out).mono B2.out.size))
      clear hjk hn
      go_wp2_with fail
      refine (E.out _).mono ?_
      rintro e w4 ⟨rfl, b4⟩
      have B4 := Lib.hid (B3.out.trans (b4.mono B3.out.size))
      clear b4 E
      go_wp2_with fail
      go_ret
      exact ⟨rfl, B4.out⟩
end Go.Proofs.Ytgdlibmgmokfaaa
