/-
  The laws BinencUints, BinencInts, BinencBools, BinencBytes and BinencLists: true for every input, nothing that existed has changed. Condition: the limit is an int.
-/
import Derived.Test.YteojfgpinmpocaaEE
import Derived.Test.YteojfgpinmpocaaES
import Derived.Test.YteojfgpinmpocaaOpenI
namespace Go.Proofs.Yteojfgpinmpocaa
open Go.RowKit

set_option maxHeartbeats 1000000 in
theorem uints_law (v : Value) (l : List UInt8) (hl : l.length ≤ 9223372036854775807) (a : Int) (w : World) (h : LstB w v l) : Calls Try.prog 5 #[v, .int .i64 a] w fun e w' => e = .returned (.bool true) ∧ Below w.heap.size w w' := by
  have X := Lib.hid (fun W => ex_any W)
  by_cases h1 : 4096 < l.length
  · obtain ⟨A, c, rfl, -⟩ := h
    have g : (4096 : Int) < (l.length : Int) := by omega
    clear h1
    go_enter Try.func5, Try.ntmps5
    go_wp2_with fail
    refine (X.out _).mono ?_
    rintro e w1 ⟨rfl, b1⟩
    go_wp2_with fail
    go_ret
    exact ⟨rfl, b1⟩
  · have g : decide ((4096 : Int) < (l.length : Int)) = false := by simp; omega
    have M := Lib.hid (uint_any v l hl a w h)
    have R := Lib.hid (ruint_any v l hl a w h)
    obtain ⟨A, c, rfl, -⟩ := h
    generalize rU l a = r at M R
    obtain ⟨x, q, e⟩ := r
    simp only at M R
    clear h1
    go_enter Try.func5, Try.ntmps5
    go_wp2_with fail
    refine (M.out).mono ?_
    rintro e w' ⟨rfl, rfl⟩
    go_wp2_with fail
    refine (R.out).mono ?_
    rintro e w' ⟨rfl, rfl⟩
    go_wp2_with fail
    refine (X.out w).mono ?_
    rintro e w2 ⟨rfl, b2⟩
    go_wp2_with fail
    go_ret
    exact ⟨rfl, b2⟩
set_option maxHeartbeats 1000000 in
theorem ints_law (v : Value) (l : List UInt8) (hl : l.length ≤ 9223372036854775807) (a : Int) (w : World) (h : LstB w v l) : Calls Try.prog 6 #[v, .int .i64 a] w fun e w' => e = .returned (.bool true) ∧ Below w.heap.size w w' := by
  have X := Lib.hid (fun W => ex_any W)
  by_cases h1 : 4096 < l.length
  · obtain ⟨A, c, rfl, -⟩ := h
    have g : (4096 : Int) < (l.length : Int) := by omega
    clear h1
    go_enter Try.func6, Try.ntmps6
    go_wp2_with fail
    refine (X.out _).mono ?_
    rintro e w1 ⟨rfl, b1⟩
    go_wp2_with fail
    go_ret
    exact ⟨rfl, b1⟩
  · have g : decide ((4096 : Int) < (l.length : Int)) = false := by simp; omega
    have M := Lib.hid (int_any v l hl a w h)
    have R := Lib.hid (rint_any v l hl a w h)
    obtain ⟨A, c, rfl, -⟩ := h
    generalize rI l a = r at M R
    obtain ⟨x, q, e⟩ := r
    simp only at M R
    clear h1
    go_enter Try.func6, Try.ntmps6
    go_wp2_with fail
    refine (M.out).mono ?_
    rintro e w' ⟨rfl, rfl⟩
    go_wp2_with fail
    refine (R.out).mono ?_
    rintro e w' ⟨rfl, rfl⟩
    go_wp2_with fail
    refine (X.out w).mono ?_
    rintro e w2 ⟨rfl, b2⟩
    go_wp2_with fail
    go_ret
    exact ⟨rfl, b2⟩
set_option maxHeartbeats 1000000 in
theorem bools_law (v : Value) (l : List UInt8) (hl : l.length ≤ 9223372036854775807) (a : Int) (w : World) (h : LstB w v l) : Calls Try.prog 8 #[v, .int .i64 a] w fun e w' => e = .returned (.bool true) ∧ Below w.heap.size w w' := by
  have X := Lib.hid (fun W => ex_any W)
  by_cases h1 : 4096 < l.length
  · obtain ⟨A, c, rfl, -⟩ := h
    have g : (4096 : Int) < (l.length : Int) := by omega
    clear h1
    go_enter Try.func8, Try.ntmps8
    go_wp2_with fail
    refine (X.out _).mono ?_
    rintro e w1 ⟨rfl, b1⟩
    go_wp2_with fail
    go_ret
    exact ⟨rfl, b1⟩
  · have g : decide ((4096 : Int) < (l.length : Int)) = false := by simp; omega
    have M := Lib.hid (bool_any v l hl a w h)
    have R := Lib.hid (rbool_any v l hl a w h)
    obtain ⟨A, c, rfl, -⟩ := h
    generalize rT l a = r at M R
    obtain ⟨x, q, e⟩ := r
    simp only at M R
    clear h1
    go_enter Try.func8, Try.ntmps8
    go_wp2_with fail
    refine (M.out).mono ?_
    rintro e w' ⟨rfl, rfl⟩
    go_wp2_with fail
    refine (R.out).mono ?_
    rintro e w' ⟨rfl, rfl⟩
    go_wp2_with fail
    refine (X.out w).mono ?_
    rintro e w2 ⟨rfl, b2⟩
    go_wp2_with fail
    go_ret
    exact ⟨rfl, b2⟩
set_option maxHeartbeats 1000000 in
theorem bytes_law (v : Value) (l : List UInt8) (_ : l.length ≤ 9223372036854775807) (a : Int) (m : Int) (hm : m ≤ 9223372036854775807) (w : World) (h : LstB w v l) : Calls Try.prog 7 #[v, .int .i64 a, .int .i64 m] w fun e w' => e = .returned (.bool true) ∧ Below w.heap.size w w' := by
  have X := Lib.hid (fun W => ex_any W)
  by_cases h1 : 4096 < l.length
  · obtain ⟨A, c, rfl, -⟩ := h
    have g : (4096 : Int) < (l.length : Int) := by omega
    clear h1
    go_enter Try.func7, Try.ntmps7
    go_wp2_with fail
    refine (X.out _).mono ?_
    rintro e w1 ⟨rfl, b1⟩
    go_wp2_with fail
    go_ret
    exact ⟨rfl, b1⟩
  · have g : decide ((4096 : Int) < (l.length : Int)) = false := by simp; omega
    have M := Lib.hid (bytes_any v l (by omega) a m hm w h)
    have R := Lib.hid (fun W (hb : Below w.heap.size w W) => rbytes_any v l (by omega) a m hm W (h.below hb))
    obtain ⟨A, c, rfl, -⟩ := h
    generalize rB l a m = r at M R
    obtain ⟨x, q, e⟩ := r
    obtain ⟨s, hs⟩ : ∃ s, str x = s := ⟨_, rfl⟩
    have HS := Lib.hid hs
    clear h1 hm hs
    go_enter Try.func7, Try.ntmps7
    go_wp2_with fail
    refine M.out.mono ?_
    rintro e w1 ⟨u1, rfl, o1, b1⟩
    have O1 : Hid (OwnB w1 w.heap.size u1 x) := o1
    have B1 := Lib.hid b1
    clear o1 b1 M
    go_wp2_with fail
    refine (R.out w1 B1.out).mono ?_
    rintro e w2 ⟨u2, rfl, o2, b2⟩
    have O1b := Lib.hid (OwnB.below O1.out b2)
    have O2 : Hid (OwnB w2 _ u2 x) := o2
    have B2 := Lib.hid (B1.out.trans (b2.mono B1.out.size))
    have c1 := conv_lit O1b.out HS.out
    have c2 := conv_lit O2.out HS.out
    clear o2 b2 R
    go_wp2_with fail
    refine (X.out w2).mono ?_
    rintro e w3 ⟨rfl, b3⟩
    go_wp2_with fail
    go_ret
    exact ⟨rfl, B2.out.trans (b3.mono B2.out.size)⟩
set_option maxHeartbeats 1000000 in
theorem lists_law (v : Value) (l : List UInt8) (_ : l.length ≤ 9223372036854775807) (a : Int) (m : Int) (hm : m ≤ 9223372036854775807) (w : World) (h : LstB w v l) : Calls Try.prog 9 #[v, .int .i64 a, .int .i64 m] w fun e w' => e = .returned (.bool true) ∧ Below w.heap.size w w' := by
  have X := Lib.hid (fun W => ex_any W)
  by_cases h1 : 4096 < l.length
  · obtain ⟨A, c, rfl, -⟩ := h
    have g : (4096 : Int) < (l.length : Int) := by omega
    clear h1
    go_enter Try.func9, Try.ntmps9
    go_wp2_with fail
    refine (X.out _).mono ?_
    rintro e w1 ⟨rfl, b1⟩
    go_wp2_with fail
    go_ret
    exact ⟨rfl, b1⟩
  · have g : decide ((4096 : Int) < (l.length : Int)) = false := by simp; omega
    have M := Lib.hid (ints_any v l (by omega) a m hm w h)
    have R := Lib.hid (fun W (hb : Below w.heap.size w W) => rints_any v l (by omega) a m hm W (h.below hb))
    have hx : (rL l a m).1.length ≤ 4096 := by
      rcases rL_cases l a m with ⟨e, hr, -⟩ | ⟨p, n, xs, -, hr, -, hx, -⟩
      · rw [hr]; simp
      · rw [hr]; show xs.length ≤ 4096; omega
    obtain ⟨A, c, rfl, -⟩ := h
    generalize rL l a m = r at M R hx
    obtain ⟨x, q, e⟩ := r
    have hx : x.length ≤ 4096 := hx
    have S := Lib.hid (fun u u' W (h1 : LstI W u x) (h2 : LstI W u' x) => Calls.below (same_any u u' x x (by omega) W h1 h2))
    rw [decide_eq_true rfl] at S
    clear h1 hm hx
    go_enter Try.func9, Try.ntmps9
    go_wp2_with fail
    refine M.out.mono ?_
    rintro e w1 ⟨u1, rfl, o1, b1⟩
    have O1 : Hid (OwnI w1 w.heap.size u1 x) := o1
    have B1 := Lib.hid b1
    clear o1 b1 M
    go_wp2_with fail
    refine (R.out w1 B1.out).mono ?_
    rintro e w2 ⟨u2, rfl, o2, b2⟩
    have T := Lib.hid (S.out u1 u2 w2 (O1.out.below b2).lst o2.lst)
    have B2 := Lib.hid (B1.out.trans (b2.mono B1.out.size))
    clear o2 b2 R S
    go_wp2_with fail
    refine T.out.mono ?_
    rintro e w3 ⟨rfl, b3⟩
    have B3 := Lib.hid (B2.out.trans (b3.mono B2.out.size))
    clear b3 T
    go_wp2_with fail
    refine (X.out w3).mono ?_
    rintro e w4 ⟨rfl, b4⟩
    go_wp2_with fail
    go_ret
    exact ⟨rfl, B3.out.trans (b4.mono B3.out.size)⟩
end Go.Proofs.Yteojfgpinmpocaa
