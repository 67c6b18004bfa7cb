/-
  The laws of P20.1 to P20.5: each returns true; nothing that existed before the call has changed behind it. Condition: the lists' numbers are of 64 bits.
-/
import Derived.Test.YtibakhobgfiklaaFqC
namespace Go.Proofs.Ytibakhobgfiklaa
open Go.RowKit Go.Sort

set_option maxRecDepth 100000 in
set_option maxHeartbeats 4000000 in
theorem checks_law (v : Value) (l : List Fp) (h64 : L64 l) (st : Int) (w : World) (h : LstF w v l) : Calls Try.prog 3 #[v, .int .i64 st] w fun e w' => e = .returned (.bool true) ∧ Below w.heap.size w w' := by
  have hh := h
  obtain ⟨A, c, rfl, -⟩ := hh
  have H := Lib.hid h
  clear h
  by_cases h1 : (600 : Int) < (l.length : Int)
  · skip
    have X := Lib.hid (ex_any w)
    clear H
    go_enter Try.func3, Try.ntmps3
    go_wp2_with fail
    refine X.out.mono ?_
    rintro e w1 ⟨rfl, y1⟩
    have B := Lib.hid y1
    clear X y1
    go_wp2_with fail
    go_ret
    exact ⟨rfl, B.out⟩
  have d1 : decide ((600 : Int) < (l.length : Int)) = false := decide_eq_false h1
  have hb : l.length ≤ 1000000 := by omega
  have B0 : Hid (RowKit.Below w.heap.size w w) := Lib.hid (RowKit.Below.refl _ _)
  have L0 := H
  clear H h1
  obtain ⟨q, hq⟩ : ∃ q, chkP st l = q := ⟨_, rfl⟩
  have C1 := Lib.hid (kchk_any (.slice A l.length c) l hb st h64 w L0.out)
  rw [hq] at C1
  go_enter Try.func3, Try.ntmps3
  go_wp2_with fail
  refine C1.out.mono ?_
  rintro e w1 ⟨rfl, y1⟩
  have L1 := Lib.hid (L0.out.below y1)
  have B1 := Lib.hid (B0.out.trans (y1.mono B0.out.size))
  clear C1 L0 B0 y1
  have C2 := Lib.hid (rchk_any (.slice A l.length c) l hb st w1 L1.out)
  rw [hq] at C2
  go_wp2_with fail
  refine C2.out.mono ?_
  rintro e w2 ⟨rfl, y2⟩
  have L2 := Lib.hid (L1.out.below y2)
  have B2 := Lib.hid (B1.out.trans (y2.mono B1.out.size))
  clear C2 L1 B1 y2
  have C3 := Lib.hid (ex_any w2)
  go_wp2_with fail
  refine C3.out.mono ?_
  rintro e w3 ⟨rfl, y3⟩
  have L3 := Lib.hid (L2.out.below y3)
  have B3 := Lib.hid (B2.out.trans (y3.mono B2.out.size))
  clear C3 L2 B2 y3
  go_wp2_with fail
  go_ret
  exact ⟨rfl, B3.out⟩
set_option maxRecDepth 100000 in
set_option maxHeartbeats 4000000 in
theorem closes_law (v : Value) (l : List Fp) (h64 : L64 l) (st : Int) (w : World) (h : LstF w v l) : Calls Try.prog 4 #[v, .int .i64 st] w fun e w' => e = .returned (.bool true) ∧ Below w.heap.size w w' := by
  have hh := h
  obtain ⟨A, c, rfl, -⟩ := hh
  have H := Lib.hid h
  clear h
  by_cases h1 : (100 : Int) < (l.length : Int)
  · skip
    have X := Lib.hid (ex_any w)
    clear H
    go_enter Try.func4, Try.ntmps4
    go_wp2_with fail
    refine X.out.mono ?_
    rintro e w1 ⟨rfl, y1⟩
    have B := Lib.hid y1
    clear X y1
    go_wp2_with fail
    go_ret
    exact ⟨rfl, B.out⟩
  have d1 : decide ((100 : Int) < (l.length : Int)) = false := decide_eq_false h1
  by_cases h2 : 12 < st
  · by_cases h3 : st ≤ 64
    · skip
      have X := Lib.hid (ex_any w)
      clear H
      go_enter Try.func4, Try.ntmps4
      go_wp2_with fail
      refine X.out.mono ?_
      rintro e w1 ⟨rfl, y1⟩
      have B := Lib.hid y1
      clear X y1
      go_wp2_with fail
      go_ret
      exact ⟨rfl, B.out⟩
    have d3 : decide (st ≤ 64) = false := decide_eq_false h3
    have hb : l.length ≤ 4096 := by omega
    have B0 : Hid (RowKit.Below w.heap.size w w) := Lib.hid (RowKit.Below.refl _ _)
    have L0 := H
    clear H h1
    obtain ⟨q, hq⟩ : ∃ q, clsE st l = q := ⟨_, rfl⟩
    obtain ⟨a, ha⟩ : ∃ a, clsL st l = a := ⟨_, rfl⟩
    have C1 := Lib.hid (kclose_any (.slice A l.length c) l hb st h64 w L0.out)
    rw [hq, ha] at C1
    go_enter Try.func4, Try.ntmps4
    go_wp2_with fail
    refine C1.out.mono ?_
    rintro e w1 ⟨v1, rfl, l1, y1, n1⟩
    have P := Lib.hid l1
    have N := Lib.hid n1
    clear l1 n1
    have L1 := Lib.hid (L0.out.below y1)
    have B1 := Lib.hid (B0.out.trans (y1.mono B0.out.size))
    clear C1 L0 B0 y1
    have C2 := Lib.hid (rclose_any (.slice A l.length c) l hb st w1 L1.out)
    rw [hq, ha] at C2
    go_wp2_with fail
    refine C2.out.mono ?_
    rintro e w2 ⟨v2, rfl, l2, y2⟩
    have Q := Lib.hid l2
    clear l2
    have L2 := Lib.hid (L1.out.below y2)
    have B2 := Lib.hid (B1.out.trans (y2.mono B1.out.size))
    have P := Lib.hid (P.out.below y2)
    clear C2 L1 B1 y2
    have C3 := Lib.hid (same_fp v1 v2 a a (by have := N.out; omega) w2 P.out Q.out)
    rw [decide_eq_true (rfl : a = a)] at C3
    go_wp2_with fail
    refine C3.out.mono ?_
    rintro e w3 ⟨rfl, m3, hm3⟩
    have y3 : RowKit.Below w2.heap.size w2 w3 := by rw [hm3]; exact below_drewN (RowKit.Below.refl _ _) m3
    clear hm3 P Q
    have L3 := Lib.hid (L2.out.below y3)
    have B3 := Lib.hid (B2.out.trans (y3.mono B2.out.size))
    clear C3 L2 B2 y3
    have C4 := Lib.hid (ex_any w3)
    go_wp2_with fail
    refine C4.out.mono ?_
    rintro e w4 ⟨rfl, y4⟩
    have L4 := Lib.hid (L3.out.below y4)
    have B4 := Lib.hid (B3.out.trans (y4.mono B3.out.size))
    clear C4 L3 B3 y4
    go_wp2_with fail
    go_ret
    exact ⟨rfl, B4.out⟩
  have d2 : decide (12 < st) = false := decide_eq_false h2
  have hb : l.length ≤ 4096 := by omega
  have B0 : Hid (RowKit.Below w.heap.size w w) := Lib.hid (RowKit.Below.refl _ _)
  have L0 := H
  clear H h1
  obtain ⟨q, hq⟩ : ∃ q, clsE st l = q := ⟨_, rfl⟩
  obtain ⟨a, ha⟩ : ∃ a, clsL st l = a := ⟨_, rfl⟩
  have C1 := Lib.hid (kclose_any (.slice A l.length c) l hb st h64 w L0.out)
  rw [hq, ha] at C1
  go_enter Try.func4, Try.ntmps4
  go_wp2_with fail
  refine C1.out.mono ?_
  rintro e w1 ⟨v1, rfl, l1, y1, n1⟩
  have P := Lib.hid l1
  have N := Lib.hid n1
  clear l1 n1
  have L1 := Lib.hid (L0.out.below y1)
  have B1 := Lib.hid (B0.out.trans (y1.mono B0.out.size))
  clear C1 L0 B0 y1
  have C2 := Lib.hid (rclose_any (.slice A l.length c) l hb st w1 L1.out)
  rw [hq, ha] at C2
  go_wp2_with fail
  refine C2.out.mono ?_
  rintro e w2 ⟨v2, rfl, l2, y2⟩
  have Q := Lib.hid l2
  clear l2
  have L2 := Lib.hid (L1.out.below y2)
  have B2 := Lib.hid (B1.out.trans (y2.mono B1.out.size))
  have P := Lib.hid (P.out.below y2)
  clear C2 L1 B1 y2
  have C3 := Lib.hid (same_fp v1 v2 a a (by have := N.out; omega) w2 P.out Q.out)
  rw [decide_eq_true (rfl : a = a)] at C3
  go_wp2_with fail
  refine C3.out.mono ?_
  rintro e w3 ⟨rfl, m3, hm3⟩
  have y3 : RowKit.Below w2.heap.size w2 w3 := by rw [hm3]; exact below_drewN (RowKit.Below.refl _ _) m3
  clear hm3 P Q
  have L3 := Lib.hid (L2.out.below y3)
  have B3 := Lib.hid (B2.out.trans (y3.mono B2.out.size))
  clear C3 L2 B2 y3
  have C4 := Lib.hid (ex_any w3)
  go_wp2_with fail
  refine C4.out.mono ?_
  rintro e w4 ⟨rfl, y4⟩
  have L4 := Lib.hid (L3.out.below y4)
  have B4 := Lib.hid (B3.out.trans (y4.mono B3.out.size))
  clear C4 L3 B3 y4
  go_wp2_with fail
  go_ret
  exact ⟨rfl, B4.out⟩
set_option maxRecDepth 100000 in
set_option maxHeartbeats 4000000 in
theorem isc_law (v : Value) (l : List Fp) (h64 : L64 l) (st : Int) (w : World) (h : LstF w v l) : Calls Try.prog 7 #[v, .int .i64 st] w fun e w' => e = .returned (.bool true) ∧ Below w.heap.size w w' := by
  have hh := h
  obtain ⟨A, c, rfl, -⟩ := hh
  have H := Lib.hid h
  clear h
  by_cases h1 : (200 : Int) < (l.length : Int)
  · skip
    have X := Lib.hid (ex_any w)
    clear H
    go_enter Try.func7, Try.ntmps7
    go_wp2_with fail
    refine X.out.mono ?_
    rintro e w1 ⟨rfl, y1⟩
    have B := Lib.hid y1
    clear X y1
    go_wp2_with fail
    go_ret
    exact ⟨rfl, B.out⟩
  have d1 : decide ((200 : Int) < (l.length : Int)) = false := decide_eq_false h1
  by_cases h2 : 12 < st
  · by_cases h3 : st ≤ 64
    · skip
      have X := Lib.hid (ex_any w)
      clear H
      go_enter Try.func7, Try.ntmps7
      go_wp2_with fail
      refine X.out.mono ?_
      rintro e w1 ⟨rfl, y1⟩
      have B := Lib.hid y1
      clear X y1
      go_wp2_with fail
      go_ret
      exact ⟨rfl, B.out⟩
    have d3 : decide (st ≤ 64) = false := decide_eq_false h3
    have hb : l.length ≤ 4096 := by omega
    have B0 : Hid (RowKit.Below w.heap.size w w) := Lib.hid (RowKit.Below.refl _ _)
    have L0 := H
    clear H h1
    obtain ⟨q, hq⟩ : ∃ q, iscF st l = q := ⟨_, rfl⟩
    have C1 := Lib.hid (kisc_any (.slice A l.length c) l hb st h64 w L0.out)
    rw [hq] at C1
    go_enter Try.func7, Try.ntmps7
    go_wp2_with fail
    refine C1.out.mono ?_
    rintro e w1 ⟨rfl, y1⟩
    have L1 := Lib.hid (L0.out.below y1)
    have B1 := Lib.hid (B0.out.trans (y1.mono B0.out.size))
    clear C1 L0 B0 y1
    have C2 := Lib.hid (risc_any (.slice A l.length c) l hb st w1 L1.out)
    rw [hq] at C2
    go_wp2_with fail
    refine C2.out.mono ?_
    rintro e w2 ⟨rfl, y2⟩
    have L2 := Lib.hid (L1.out.below y2)
    have B2 := Lib.hid (B1.out.trans (y2.mono B1.out.size))
    clear C2 L1 B1 y2
    have C3 := Lib.hid (ex_any w2)
    go_wp2_with fail
    refine C3.out.mono ?_
    rintro e w3 ⟨rfl, y3⟩
    have L3 := Lib.hid (L2.out.below y3)
    have B3 := Lib.hid (B2.out.trans (y3.mono B2.out.size))
    clear C3 L2 B2 y3
    go_wp2_with fail
    go_ret
    exact ⟨rfl, B3.out⟩
  have d2 : decide (12 < st) = false := decide_eq_false h2
  have hb : l.length ≤ 4096 := by omega
  have B0 : Hid (RowKit.Below w.heap.size w w) := Lib.hid (RowKit.Below.refl _ _)
  have L0 := H
  clear H h1
  obtain ⟨q, hq⟩ : ∃ q, iscF st l = q := ⟨_, rfl⟩
  have C1 := Lib.hid (kisc_any (.slice A l.length c) l hb st h64 w L0.out)
  rw [hq] at C1
  go_enter Try.func7, Try.ntmps7
  go_wp2_with fail
  refine C1.out.mono ?_
  rintro e w1 ⟨rfl, y1⟩
  have L1 := Lib.hid (L0.out.below y1)
  have B1 := Lib.hid (B0.out.trans (y1.mono B0.out.size))
  clear C1 L0 B0 y1
  have C2 := Lib.hid (risc_any (.slice A l.length c) l hb st w1 L1.out)
  rw [hq] at C2
  go_wp2_with fail
  refine C2.out.mono ?_
  rintro e w2 ⟨rfl, y2⟩
  have L2 := Lib.hid (L1.out.below y2)
  have B2 := Lib.hid (B1.out.trans (y2.mono B1.out.size))
  clear C2 L1 B1 y2
  have C3 := Lib.hid (ex_any w2)
  go_wp2_with fail
  refine C3.out.mono ?_
  rintro e w3 ⟨rfl, y3⟩
  have L3 := Lib.hid (L2.out.below y3)
  have B3 := Lib.hid (B2.out.trans (y3.mono B2.out.size))
  clear C3 L2 B2 y3
  go_wp2_with fail
  go_ret
  exact ⟨rfl, B3.out⟩
set_option maxRecDepth 100000 in
set_option maxHeartbeats 4000000 in
theorem times_law (v : Value) (l : List Fp) (_h64 : L64 l) (fr tt : Int) (w : World) (h : LstF w v l) : Calls Try.prog 5 #[v, .int .i64 fr, .int .i64 tt] w fun e w' => e = .returned (.bool true) ∧ Below w.heap.size w w' := by
  have hh := h
  obtain ⟨A, c, rfl, -⟩ := hh
  have H := Lib.hid h
  clear h
  by_cases h1 : (100 : Int) < (l.length : Int)
  · skip
    have X := Lib.hid (ex_any w)
    clear H
    go_enter Try.func5, Try.ntmps5
    go_wp2_with fail
    refine X.out.mono ?_
    rintro e w1 ⟨rfl, y1⟩
    have B := Lib.hid y1
    clear X y1
    go_wp2_with fail
    go_ret
    exact ⟨rfl, B.out⟩
  have d1 : decide ((100 : Int) < (l.length : Int)) = false := decide_eq_false h1
  have hb : l.length ≤ 100000 := by omega
  have B0 : Hid (RowKit.Below w.heap.size w w) := Lib.hid (RowKit.Below.refl _ _)
  have L0 := H
  clear H h1
  obtain ⟨t1, e1⟩ : ∃ q, tiF l fr tt false = q := ⟨_, rfl⟩
  obtain ⟨t2, e2⟩ : ∃ q, tiF l fr tt true = q := ⟨_, rfl⟩
  have C1 := Lib.hid (ktime_any (.slice A l.length c) l hb fr tt false w L0.out)
  rw [e1] at C1
  go_enter Try.func5, Try.ntmps5
  go_wp2_with fail
  refine C1.out.mono ?_
  rintro e w1 ⟨rfl, y1⟩
  have L1 := Lib.hid (L0.out.below y1)
  have B1 := Lib.hid (B0.out.trans (y1.mono B0.out.size))
  clear C1 L0 B0 y1
  have C2 := Lib.hid (rtime_any (.slice A l.length c) l hb fr tt false w1 L1.out)
  rw [e1] at C2
  go_wp2_with fail
  refine C2.out.mono ?_
  rintro e w2 ⟨rfl, y2⟩
  have L2 := Lib.hid (L1.out.below y2)
  have B2 := Lib.hid (B1.out.trans (y2.mono B1.out.size))
  clear C2 L1 B1 y2
  have C3 := Lib.hid (ktime_any (.slice A l.length c) l hb fr tt true w2 L2.out)
  rw [e2] at C3
  go_wp2_with fail
  refine C3.out.mono ?_
  rintro e w3 ⟨rfl, y3⟩
  have L3 := Lib.hid (L2.out.below y3)
  have B3 := Lib.hid (B2.out.trans (y3.mono B2.out.size))
  clear C3 L2 B2 y3
  have C4 := Lib.hid (rtime_any (.slice A l.length c) l hb fr tt true w3 L3.out)
  rw [e2] at C4
  go_wp2_with fail
  refine C4.out.mono ?_
  rintro e w4 ⟨rfl, y4⟩
  have L4 := Lib.hid (L3.out.below y4)
  have B4 := Lib.hid (B3.out.trans (y4.mono B3.out.size))
  clear C4 L3 B3 y4
  have C5 := Lib.hid (ex_any w4)
  go_wp2_with fail
  refine C5.out.mono ?_
  rintro e w5 ⟨rfl, y5⟩
  have L5 := Lib.hid (L4.out.below y5)
  have B5 := Lib.hid (B4.out.trans (y5.mono B4.out.size))
  clear C5 L4 B4 y5
  go_wp2_with fail
  go_ret
  exact ⟨rfl, B5.out⟩
set_option maxRecDepth 100000 in
set_option maxHeartbeats 4000000 in
theorem arounds_law (v : Value) (l : List Fp) (_h64 : L64 l) (st mo : Int) (w : World) (h : LstF w v l) : Calls Try.prog 6 #[v, .int .i64 st, .int .i64 mo] w fun e w' => e = .returned (.bool true) ∧ Below w.heap.size w w' := by
  have hh := h
  obtain ⟨A, c, rfl, -⟩ := hh
  have H := Lib.hid h
  clear h
  by_cases h1 : (100 : Int) < (l.length : Int)
  · skip
    have X := Lib.hid (ex_any w)
    clear H
    go_enter Try.func6, Try.ntmps6
    go_wp2_with fail
    refine X.out.mono ?_
    rintro e w1 ⟨rfl, y1⟩
    have B := Lib.hid y1
    clear X y1
    go_wp2_with fail
    go_ret
    exact ⟨rfl, B.out⟩
  have d1 : decide ((100 : Int) < (l.length : Int)) = false := decide_eq_false h1
  have hb : l.length ≤ 100000 := by omega
  have B0 : Hid (RowKit.Below w.heap.size w w) := Lib.hid (RowKit.Below.refl _ _)
  have L0 := H
  clear H h1
  have n1 : (arF l st mo false).length ≤ 1099511627776 := by have := ar_len l st mo false; omega
  have n2 : (arF l st mo true).length ≤ 1099511627776 := by have := ar_len l st mo true; omega
  obtain ⟨t1, e1⟩ : ∃ q, arF l st mo false = q := ⟨_, rfl⟩
  obtain ⟨t2, e2⟩ : ∃ q, arF l st mo true = q := ⟨_, rfl⟩
  rw [e1] at n1
  rw [e2] at n2
  have N1 := Lib.hid n1
  have N2 := Lib.hid n2
  clear n1 n2
  have C1 := Lib.hid (karound_any (.slice A l.length c) l hb st mo false w L0.out)
  rw [e1] at C1
  go_enter Try.func6, Try.ntmps6
  go_wp2_with fail
  refine C1.out.mono ?_
  rintro e w1 ⟨v1, rfl, l1, y1⟩
  have P := Lib.hid l1
  clear l1
  have L1 := Lib.hid (L0.out.below y1)
  have B1 := Lib.hid (B0.out.trans (y1.mono B0.out.size))
  clear C1 L0 B0 y1
  have C2 := Lib.hid (raround_any (.slice A l.length c) l hb st mo false w1 L1.out)
  rw [e1] at C2
  go_wp2_with fail
  refine C2.out.mono ?_
  rintro e w2 ⟨v2, rfl, l2, y2⟩
  have Q := Lib.hid l2
  clear l2
  have L2 := Lib.hid (L1.out.below y2)
  have B2 := Lib.hid (B1.out.trans (y2.mono B1.out.size))
  have P := Lib.hid (P.out.below y2)
  clear C2 L1 B1 y2
  have C3 := Lib.hid (ints_law v1 v2 t1 t1 N1.out w2 P.out Q.out)
  rw [decide_eq_true (rfl : t1 = t1)] at C3
  go_wp2_with fail
  refine C3.out.mono ?_
  rintro e w3 ⟨rfl, m3, hm3⟩
  have y3 : RowKit.Below w2.heap.size w2 w3 := by rw [hm3]; exact below_drewN (RowKit.Below.refl _ _) m3
  clear hm3 P Q
  have L3 := Lib.hid (L2.out.below y3)
  have B3 := Lib.hid (B2.out.trans (y3.mono B2.out.size))
  clear C3 L2 B2 y3
  have C4 := Lib.hid (karound_any (.slice A l.length c) l hb st mo true w3 L3.out)
  rw [e2] at C4
  go_wp2_with fail
  refine C4.out.mono ?_
  rintro e w4 ⟨v4, rfl, l4, y4⟩
  have P := Lib.hid l4
  clear l4
  have L4 := Lib.hid (L3.out.below y4)
  have B4 := Lib.hid (B3.out.trans (y4.mono B3.out.size))
  clear C4 L3 B3 y4
  have C5 := Lib.hid (raround_any (.slice A l.length c) l hb st mo true w4 L4.out)
  rw [e2] at C5
  go_wp2_with fail
  refine C5.out.mono ?_
  rintro e w5 ⟨v5, rfl, l5, y5⟩
  have Q := Lib.hid l5
  clear l5
  have L5 := Lib.hid (L4.out.below y5)
  have B5 := Lib.hid (B4.out.trans (y5.mono B4.out.size))
  have P := Lib.hid (P.out.below y5)
  clear C5 L4 B4 y5
  have C6 := Lib.hid (ints_law v4 v5 t2 t2 N2.out w5 P.out Q.out)
  rw [decide_eq_true (rfl : t2 = t2)] at C6
  go_wp2_with fail
  refine C6.out.mono ?_
  rintro e w6 ⟨rfl, m6, hm6⟩
  have y6 : RowKit.Below w5.heap.size w5 w6 := by rw [hm6]; exact below_drewN (RowKit.Below.refl _ _) m6
  clear hm6 P Q
  have L6 := Lib.hid (L5.out.below y6)
  have B6 := Lib.hid (B5.out.trans (y6.mono B5.out.size))
  clear C6 L5 B5 y6
  have C7 := Lib.hid (ex_any w6)
  go_wp2_with fail
  refine C7.out.mono ?_
  rintro e w7 ⟨rfl, y7⟩
  have L7 := Lib.hid (L6.out.below y7)
  have B7 := Lib.hid (B6.out.trans (y7.mono B6.out.size))
  clear C7 L6 B6 y7
  go_wp2_with fail
  go_ret
  exact ⟨rfl, B7.out⟩
end Go.Proofs.Ytibakhobgfiklaa
