/-
  The example of package number's statements, and the seven statements: each call returns true; nothing that existed before the call has changed behind it. Condition: integers of 64 bits; the library's variable ErrRange holds an error.
-/
import Derived.Test.YtaglpfilopcniaaDoorNRPay
import Derived.Test.YtaglpfilopcniaaDoorNRMul
namespace Go.Proofs.YtaglpfilopcniaaDoor
open Go.RowKit

theorem e_007 : numR [48, 48, 55] = (0, 3) := by decide +kernel
theorem e_big : numR [57, 50, 50, 51, 51, 55, 50, 48, 51, 54, 56, 53, 52, 55, 55, 53, 56, 48, 56] = (0, 2) := by decide +kernel
theorem e_flo : flo (-7) 2 = -4 := by decide +kernel
theorem e_text : priceText 1205 = [49, 50, 46, 48, 53] := by
  unfold priceText
  rw [Lib.decDigits_two (by decide) (by decide)]
  rfl
theorem e_pay : priceR [49, 48, 48, 48, 48, 46, 48, 49] = (0, 2) := by decide +kernel
theorem e_120 : Lib.itoa (-120) = [45, 49, 50, 48] := by
  rw [itoa_neg _ (by decide), show (-120 : Int).natAbs = 120 from rfl, dd_step 120 (by decide), Lib.decDigits_two (by decide) (by decide)]
  rfl
theorem example_holds : ∀ w : World, Good w → Calls Tryd.prog 13 #[] w fun e w' => e = .returned (.bool true) ∧ Below w.heap.size w w' := by
  intro w hg
  have A := Lib.hid (fun w hg => parse_any [48, 48, 55] (by decide) w hg)
  rw [e_007] at A
  have B := Lib.hid (fun w hg => parse_any [57, 50, 50, 51, 51, 55, 50, 48, 51, 54, 56, 53, 52, 55, 55, 53, 56, 48, 56] (by decide) w hg)
  rw [e_big] at B
  have C := Lib.hid (fun w => div_core (-7) 2 ⟨by decide, by decide, by decide, by decide⟩ (by decide) (by decide) w)
  rw [e_flo] at C
  have D := Lib.hid (fun w => div_min w)
  have E := Lib.hid (fun w => fprice_yes 1205 1205 rfl (by decide) w)
  rw [e_text] at E
  have F := Lib.hid (fun w hg => pprice_any [49, 48, 48, 48, 48, 46, 48, 49] (by decide) w hg)
  rw [e_pay] at F
  have G := Lib.hid (fun w => format_any (-120) (by decide) (by decide) w)
  rw [e_120] at G
  go_enter Tryd.func13, Tryd.ntmps13
  go_wp2_with fail
  refine (A.out _ hg).mono ?_
  rintro e w1 ⟨rfl, b1⟩
  go_wp2_with fail
  refine (rel (W := w) (B.out _ (hg.below b1)) b1).mono ?_
  rintro e w2 ⟨rfl, b2⟩
  clear b1
  go_wp2_with fail
  refine (rel (W := w) (C.out _) b2).mono ?_
  rintro e w3 ⟨rfl, b3⟩
  clear b2
  go_wp2_with fail
  refine (rel (W := w) (D.out _) b3).mono ?_
  rintro e w4 ⟨rfl, b4⟩
  clear b3
  go_wp2_with fail
  refine (rel (W := w) (E.out _) b4).mono ?_
  rintro e w5 ⟨rfl, b5⟩
  clear b4
  go_wp2_with fail
  refine (rel (W := w) (F.out _ (hg.below b5)) b5).mono ?_
  rintro e w6 ⟨rfl, b6⟩
  clear b5
  go_wp2_with fail
  refine (rel (W := w) (G.out _) b6).mono ?_
  rintro e w7 ⟨rfl, b7⟩
  clear b6
  go_wp2_with fail
  go_ret
  exact ⟨rfl, b7⟩

theorem itoa_len (n : Int) (h0 : -9223372036854775808 ≤ n) (h1 : n ≤ 9223372036854775807) : (Lib.itoa n).length ≤ 20 := by
  by_cases h : n < 0
  · rw [itoa_neg n h]
    have := dd_19 n.natAbs (by omega)
    simp
    omega
  · rw [itoa_pos n (by omega)]
    have := dd_19 n.toNat (by omega)
    omega
theorem formats_law (n : Int) (h0 : -9223372036854775808 ≤ n) (h1 : n ≤ 9223372036854775807) : ∀ w : World, Good w → Calls Tryd.prog 3 #[.int .i64 n] w fun e w' => e = .returned (.bool true) ∧ Below w.heap.size w w' := by
  intro w hg
  have A := Lib.hid (fun w => format_any n h0 h1 w)
  have B := Lib.hid (fun w hg => parse_any (Lib.itoa n) (by have := itoa_len n h0 h1; omega) w hg)
  rw [numR_itoa n h0 h1] at B
  have R := Lib.hid (fun w => still (rformat_any n h0 h1 w))
  generalize Lib.itoa n = l at A B R
  go_enter Tryd.func3, Tryd.ntmps3
  go_wp2_with fail
  refine (A.out _).mono ?_
  rintro e w1 ⟨rfl, b1⟩
  go_wp2_with fail
  refine (rel (W := w) (B.out _ (hg.below b1)) b1).mono ?_
  rintro e w2 ⟨rfl, b2⟩
  clear b1
  go_wp2_with fail
  refine (rel (W := w) (R.out _) b2).mono ?_
  rintro e w3 ⟨rfl, b3⟩
  clear b2
  go_wp2_with fail
  refine (rel (W := w) (example_holds _ (hg.below b3)) b3).mono ?_
  rintro e w4 ⟨rfl, b4⟩
  clear b3
  go_wp2_with fail
  go_ret
  exact ⟨rfl, b4⟩
theorem parses_law (s : ByteArray) (lo hi : Int) : ∀ w : World, Good w → Calls Tryd.prog 4 #[.string s, .int .i64 lo, .int .i64 hi] w fun e w' => e = .returned (.bool true) ∧ Below w.heap.size w w' := by
  intro w hg
  by_cases hs : (200 : Int) < (s.size : Int)
  · go_enter Tryd.func4, Tryd.ntmps4
    go_wp2_with fail
    refine (example_holds _ hg).mono ?_
    rintro e w1 ⟨rfl, b1⟩
    go_wp2_with fail
    go_ret
    exact ⟨rfl, b1⟩
  · have d : decide ((200 : Int) < (s.size : Int)) = false := lt_false (by omega)
    obtain ⟨l, hl⟩ : ∃ l, s = str l := ⟨s.data.toList, rfl⟩
    have hz : l.length ≤ 4000 := by have := size_str l; rw [← hl] at this; omega
    have A := Lib.hid (fun w hg => parse_any l (by omega) w hg)
    have B := Lib.hid (fun w => still (rparse_any l hz w))
    have C := Lib.hid (fun w hg => prange_any l (by omega) lo hi w hg)
    have D := Lib.hid (fun w => still (rprange_any l hz lo hi w))
    rw [← hl] at A B C D
    generalize numR l = p at A B
    generalize rngR l lo hi = q at C D
    obtain ⟨p1, p2⟩ := p
    obtain ⟨q1, q2⟩ := q
    clear hl hz hs
    go_enter Tryd.func4, Tryd.ntmps4
    go_wp2_with fail
    refine (A.out _ hg).mono ?_
    rintro e w1 ⟨rfl, b1⟩
    go_wp2_with fail
    refine (rel (W := w) (B.out _) b1).mono ?_
    rintro e w2 ⟨rfl, b2⟩
    clear b1
    go_wp2_with fail
    refine (rel (W := w) (C.out _ (hg.below b2)) b2).mono ?_
    rintro e w3 ⟨rfl, b3⟩
    clear b2
    go_wp2_with fail
    refine (rel (W := w) (D.out _) b3).mono ?_
    rintro e w4 ⟨rfl, b4⟩
    clear b3
    go_wp2_with fail
    refine (rel (W := w) (example_holds _ (hg.below b4)) b4).mono ?_
    rintro e w5 ⟨rfl, b5⟩
    clear b4
    go_wp2_with fail
    go_ret
    exact ⟨rfl, b5⟩
theorem computes_law (a b : Int) (a0 : -9223372036854775808 ≤ a) (a1 : a ≤ 9223372036854775807) (b0 : -9223372036854775808 ≤ b) (b1 : b ≤ 9223372036854775807) : ∀ w : World, Good w → Calls Tryd.prog 5 #[.int .i64 a, .int .i64 b] w fun e w' => e = .returned (.bool true) ∧ Below w.heap.size w w' := by
  intro w hg
  have t : Two a b := ⟨a0, a1, b0, b1⟩
  obtain ⟨n1, o1, A1, R1⟩ := add_is a b t
  obtain ⟨n2, o2, A2, R2⟩ := sub_is a b t
  obtain ⟨n3, o3, A3, R3⟩ := mul_is a b t
  obtain ⟨n4, o4, A4, R4, _⟩ := div_is a b t
  have A1 := Lib.hid A1
  have A2 := Lib.hid A2
  have A3 := Lib.hid A3
  have A4 := Lib.hid A4
  have R1 := Lib.hid (fun w => still (R1 w))
  have R2 := Lib.hid (fun w => still (R2 w))
  have R3 := Lib.hid (fun w => still (R3 w))
  have R4 := Lib.hid R4
  clear t a0 a1 b0 b1
  go_enter Tryd.func5, Tryd.ntmps5
  go_wp2_with fail
  refine (A1.out _).mono ?_
  rintro e w1 ⟨rfl, b1⟩
  go_wp2_with fail
  refine (rel (W := w) (R1.out _) b1).mono ?_
  rintro e w2 ⟨rfl, b2⟩
  clear b1
  go_wp2_with fail
  refine (rel (W := w) (A2.out _) b2).mono ?_
  rintro e w3 ⟨rfl, b3⟩
  clear b2
  go_wp2_with fail
  refine (rel (W := w) (R2.out _) b3).mono ?_
  rintro e w4 ⟨rfl, b4⟩
  clear b3
  go_wp2_with fail
  refine (rel (W := w) (A3.out _) b4).mono ?_
  rintro e w5 ⟨rfl, b5⟩
  clear b4
  go_wp2_with fail
  refine (rel (W := w) (R3.out _) b5).mono ?_
  rintro e w6 ⟨rfl, b6⟩
  clear b5
  go_wp2_with fail
  refine (rel (W := w) (A4.out _) b6).mono ?_
  rintro e w7 ⟨rfl, b7⟩
  clear b6
  go_wp2_with fail
  refine (rel (W := w) (R4.out _) b7).mono ?_
  rintro e w8 ⟨rfl, b8⟩
  clear b7
  go_wp2_with fail
  refine (rel (W := w) (example_holds _ (hg.below b8)) b8).mono ?_
  rintro e w9 ⟨rfl, b9⟩
  clear b8
  go_wp2_with fail
  go_ret
  exact ⟨rfl, b9⟩
theorem clamps_law (n lo hi : Int) : ∀ w : World, Good w → Calls Tryd.prog 6 #[.int .i64 n, .int .i64 lo, .int .i64 hi] w fun e w' => e = .returned (.bool true) ∧ Below w.heap.size w w' := by
  intro w hg
  obtain ⟨m, A, R⟩ := clamp_is n lo hi
  have A := Lib.hid A
  have R := Lib.hid R
  go_enter Tryd.func6, Tryd.ntmps6
  go_wp2_with fail
  refine (A.out _).mono ?_
  rintro e w' ⟨rfl, rfl⟩
  go_wp2_with fail
  refine (R.out _).mono ?_
  rintro e w' ⟨rfl, rfl⟩
  go_wp2_with fail
  refine (example_holds _ hg).mono ?_
  rintro e w1 ⟨rfl, b1⟩
  go_wp2_with fail
  go_ret
  exact ⟨rfl, b1⟩
theorem prices_is (n : Int) : ∃ t c, (∀ w : World, Calls Tryd.prog 27 #[.int .i64 n] w fun e w' => e = .returned (.tuple #[.string t, .int .i64 c]) ∧ Below w.heap.size w w') ∧ ∀ w : World, Calls Tryd.prog 28 #[.int .i64 n] w fun e w' => e = .returned (.tuple #[.string t, .int .i64 c]) ∧ w = w' := by
  by_cases h : 0 ≤ n ∧ n ≤ 1000000
  · exact ⟨_, _, fun w => fprice_yes n n.toNat (by omega) h.2 w, fun w => rfprice_yes n n.toNat (by omega) h.2 w⟩
  · exact ⟨_, _, fun w => fprice_no n (by omega) w, fun w => rfprice_no n (by omega) w⟩
theorem prices_law (n : Int) (s : ByteArray) : ∀ w : World, Good w → Calls Tryd.prog 7 #[.int .i64 n, .string s] w fun e w' => e = .returned (.bool true) ∧ Below w.heap.size w w' := by
  intro w hg
  by_cases hs : (200 : Int) < (s.size : Int)
  · go_enter Tryd.func7, Tryd.ntmps7
    go_wp2_with fail
    refine (example_holds _ hg).mono ?_
    rintro e w1 ⟨rfl, b1⟩
    go_wp2_with fail
    go_ret
    exact ⟨rfl, b1⟩
  · have d : decide ((200 : Int) < (s.size : Int)) = false := lt_false (by omega)
    obtain ⟨l, hl⟩ : ∃ l, s = str l := ⟨s.data.toList, rfl⟩
    have hz : l.length ≤ 4000 := by have := size_str l; rw [← hl] at this; omega
    obtain ⟨t, c, A, R⟩ := prices_is n
    have A := Lib.hid A
    have R := Lib.hid (fun w => still (R w))
    have C := Lib.hid (fun w hg => pprice_any l hz w hg)
    have D := Lib.hid (fun w => rpprice_any l hz w)
    rw [← hl] at C D
    generalize priceR l = q at C D
    obtain ⟨q1, q2⟩ := q
    clear hl hz hs
    go_enter Tryd.func7, Tryd.ntmps7
    go_wp2_with fail
    refine (A.out _).mono ?_
    rintro e w1 ⟨rfl, b1⟩
    go_wp2_with fail
    refine (rel (W := w) (R.out _) b1).mono ?_
    rintro e w2 ⟨rfl, b2⟩
    clear b1
    go_wp2_with fail
    refine (rel (W := w) (C.out _ (hg.below b2)) b2).mono ?_
    rintro e w3 ⟨rfl, b3⟩
    clear b2
    go_wp2_with fail
    refine (rel (W := w) (D.out _) b3).mono ?_
    rintro e w4 ⟨rfl, b4⟩
    clear b3
    go_wp2_with fail
    refine (rel (W := w) (example_holds _ (hg.below b4)) b4).mono ?_
    rintro e w5 ⟨rfl, b5⟩
    clear b4
    go_wp2_with fail
    go_ret
    exact ⟨rfl, b5⟩
end Go.Proofs.YtaglpfilopcniaaDoor
