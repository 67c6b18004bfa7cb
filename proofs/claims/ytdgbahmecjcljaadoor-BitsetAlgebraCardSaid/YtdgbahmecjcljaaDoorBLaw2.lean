/-
  Four laws more on sets of small ints: the lists, the iterator, the algebra, the members: each call answers true; nothing that existed before the call has changed behind it. Condition: the table of math/bits as its initialiser lays it.
-/
import Derived.Test.YtdgbahmecjcljaaDoorBLaw
namespace Go.Proofs.YtdgbahmecjcljaaDoor
open Go.RowKit

theorem intN_few (s : Nat) : (intN (elems s)).length ≤ 64 := by rw [intN_len]; exact elems_len s
set_option maxHeartbeats 2000000 in
theorem lists_law (s : Nat) (hs : W64 s) (w : World) (hg : Good w) : Calls Tryd.prog 6 #[.int .u64 (s : Int)] w fun e w' => e = .returned (.bool true) ∧ Below w.heap.size w w' := by
  have HG := Lib.hid hg
  have L1 := Lib.hid (rlist_any s hs w)
  have M1 := Lib.hid (fun W hW => min_any s hs W hW)
  have M2 := Lib.hid (fun W => rmin_any s hs W)
  have N1 := Lib.hid (fun W => len_any s hs W)
  have L2 := Lib.hid (fun W hW => list_any s hs W hW)
  have F := Lib.hid (intN_few s)
  rw [← intN_len] at N1
  have SM := Lib.hid (fun u v W (h1 : LstI W u (intN (elems s))) (h2 : LstI W v (intN (elems s))) => same_any u v _ _ (by have := F.out; omega) W h1 h2)
  rw [decide_eq_true rfl] at SM
  generalize intN (elems s) = l at L1 N1 L2 SM
  generalize minB s = m at M1 M2
  generalize decide (s ≠ 0) = b at M1 M2
  have g1 := eqw m
  have g2 := eqn m
  have g3 : (b == b) = true := by simp
  have g4 := eqw l.length
  have g5 := eqn l.length
  clear hs hg F
  go_enter Tryd.func6, Tryd.ntmps6
  go_wp2_with fail
  refine L1.out.mono ?_
  rintro e w1 ⟨v, rfl, l1, b1⟩
  have B1 := Lib.hid b1
  have T := Lib.hid l1
  obtain ⟨A, c, rfl, -⟩ := l1
  clear b1 L1
  go_wp2_with fail
  refine (M1.out _ (HG.out.below B1.out)).mono ?_
  rintro e w' ⟨rfl, rfl⟩
  go_wp2_with fail
  refine (M2.out _).mono ?_
  rintro e w2 ⟨rfl, b2⟩
  have B2 := Lib.hid (B1.out.trans (b2.mono B1.out.size))
  have T2 := Lib.hid (T.out.below b2)
  clear b2 M1 M2 B1 T
  go_wp2_with fail
  refine (N1.out _).mono ?_
  rintro e w' ⟨rfl, rfl⟩
  go_wp2_with fail
  refine (L2.out _ (HG.out.below B2.out)).mono ?_
  rintro e w3 ⟨v3, rfl, l3, b3⟩
  have B3 := Lib.hid (B2.out.trans (b3.mono B2.out.size))
  have S3 := Lib.hid (Calls.below (SM.out _ _ _ l3 (T2.out.below b3)))
  clear l3 b3 L2 SM T2 B2
  go_wp2_with fail
  refine (S3.out).mono ?_
  rintro e w4 ⟨rfl, b4⟩
  have B4 := Lib.hid (B3.out.trans (b4.mono B3.out.size))
  clear b4 S3 B3
  go_wp2_with fail
  refine (rel (W := w) (example_holds _ (HG.out.below B4.out)) B4.out).mono ?_
  rintro e w5 ⟨rfl, b5⟩
  go_wp2_with fail
  go_ret
  exact ⟨rfl, b5⟩
theorem intN_take (l : List Nat) (n : Nat) : intN (l.take n) = (intN l).take n := by unfold intN; rw [List.map_take]
set_option maxHeartbeats 2000000 in
theorem iterates_law (s : Nat) (hs : W64 s) (n : Int) (w : World) (hg : Good w) : Calls Tryd.prog 7 #[.int .u64 (s : Int), .int .i64 n] w fun e w' => e = .returned (.bool true) ∧ Below w.heap.size w w' := by
  have HG := Lib.hid hg
  have L1 := Lib.hid (rlist_any s hs w)
  have F := Lib.hid (intN_few s)
  obtain ⟨N, hN⟩ : ∃ N : Nat, (if n < 1 then 1 else n) = (N : Int) := ⟨(if n < 1 then 1 else n).toNat, by split <;> omega⟩
  have hN1 : (1 : Int) ≤ N := by rw [← hN]; split <;> omega
  have FI := Lib.hid (fun W hW => first_any s hs (N : Int) hN1 W hW)
  rw [Int.toNat_natCast, intN_take] at FI
  have SM := Lib.hid (fun u v W (h1 : LstI W u ((intN (elems s)).take N)) (h2 : LstI W v ((intN (elems s)).take N)) => same_any u v _ _ (by have := F.out; rw [List.length_take]; omega) W h1 h2)
  rw [decide_eq_true rfl] at SM
  generalize intN (elems s) = l at L1 FI SM F
  clear hs hg
  have key : ∀ (hb : n < 1 ∧ N = 1 ∨ 1 ≤ n ∧ n = N), Calls Tryd.prog 7 #[.int .u64 (s : Int), .int .i64 n] w fun e w' => e = .returned (.bool true) ∧ Below w.heap.size w w' := by
    intro hb
    rcases hb with ⟨hn, rfl⟩ | ⟨hn, rfl⟩
    · clear hN hN1
      by_cases hk : 1 < l.length
      · go_enter Tryd.func7, Tryd.ntmps7
        go_wp2_with fail
        refine L1.out.mono ?_
        rintro e w1 ⟨v, rfl, l1, b1⟩
        have B1 := Lib.hid b1
        obtain ⟨x, hx, lx⟩ := ints_to l1 1 (by omega) 1 rfl
        generalize List.take 1 l = q at FI SM lx
        have LX := Lib.hid lx
        obtain ⟨A, c, rfl, -⟩ := l1
        obtain ⟨A2, c2, rfl, -⟩ := lx
        have gk : (1 : Int) < (l.length : Int) := by omega
        clear b1 L1
        go_wp2_with fail
        refine (FI.out _ (HG.out.below B1.out)).mono ?_
        rintro e w3 ⟨v3, rfl, l3, b3⟩
        have B3 := Lib.hid (B1.out.trans (b3.mono B1.out.size))
        have S3 := Lib.hid (Calls.below (SM.out _ _ _ l3 (LX.out.below b3)))
        clear l3 b3 SM LX B1 hx
        go_wp2_with fail
        refine (S3.out).mono ?_
        rintro e w4 ⟨rfl, b4⟩
        have B4 := Lib.hid (B3.out.trans (b4.mono B3.out.size))
        clear b4 S3 B3
        go_wp2_with fail
        refine (rel (W := w) (example_holds _ (HG.out.below B4.out)) B4.out).mono ?_
        rintro e w5 ⟨rfl, b5⟩
        go_wp2_with fail
        go_ret
        exact ⟨rfl, b5⟩
      · have hk2 : decide (1 < l.length) = false := decide_eq_false hk
        have hk3 : decide ((1 : Int) < (l.length : Int)) = false := by simp; omega
        rw [List.take_of_length_le (by omega)] at FI SM
        clear hk
        go_enter Tryd.func7, Tryd.ntmps7
        go_wp2_with fail
        refine L1.out.mono ?_
        rintro e w1 ⟨v, rfl, l1, b1⟩
        have B1 := Lib.hid b1
        have LX := Lib.hid l1
        obtain ⟨A, c, rfl, -⟩ := l1
        clear b1 L1
        go_wp2_with fail
        refine (FI.out _ (HG.out.below B1.out)).mono ?_
        rintro e w3 ⟨v3, rfl, l3, b3⟩
        have B3 := Lib.hid (B1.out.trans (b3.mono B1.out.size))
        have S3 := Lib.hid (Calls.below (SM.out _ _ _ l3 (LX.out.below b3)))
        clear l3 b3 SM LX B1
        go_wp2_with fail
        refine (S3.out).mono ?_
        rintro e w4 ⟨rfl, b4⟩
        have B4 := Lib.hid (B3.out.trans (b4.mono B3.out.size))
        clear b4 S3 B3
        go_wp2_with fail
        refine (rel (W := w) (example_holds _ (HG.out.below B4.out)) B4.out).mono ?_
        rintro e w5 ⟨rfl, b5⟩
        go_wp2_with fail
        go_ret
        exact ⟨rfl, b5⟩
    · have hn2 : decide ((N : Int) < 1) = false := by simp; omega
      clear hN
      by_cases hk : N < l.length
      · go_enter Tryd.func7, Tryd.ntmps7
        go_wp2_with fail
        refine L1.out.mono ?_
        rintro e w1 ⟨v, rfl, l1, b1⟩
        have B1 := Lib.hid b1
        obtain ⟨x, hx, lx⟩ := ints_to l1 N (by omega) N rfl
        generalize List.take N l = q at FI SM lx
        have LX := Lib.hid lx
        obtain ⟨A, c, rfl, -⟩ := l1
        obtain ⟨A2, c2, rfl, -⟩ := lx
        have gk : (N : Int) < (l.length : Int) := by omega
        clear b1 L1
        go_wp2_with fail
        refine (FI.out _ (HG.out.below B1.out)).mono ?_
        rintro e w3 ⟨v3, rfl, l3, b3⟩
        have B3 := Lib.hid (B1.out.trans (b3.mono B1.out.size))
        have S3 := Lib.hid (Calls.below (SM.out _ _ _ l3 (LX.out.below b3)))
        clear l3 b3 SM LX B1 hx
        go_wp2_with fail
        refine (S3.out).mono ?_
        rintro e w4 ⟨rfl, b4⟩
        have B4 := Lib.hid (B3.out.trans (b4.mono B3.out.size))
        clear b4 S3 B3
        go_wp2_with fail
        refine (rel (W := w) (example_holds _ (HG.out.below B4.out)) B4.out).mono ?_
        rintro e w5 ⟨rfl, b5⟩
        go_wp2_with fail
        go_ret
        exact ⟨rfl, b5⟩
      · have hk2 : decide (N < l.length) = false := decide_eq_false hk
        have hk3 : decide ((N : Int) < (l.length : Int)) = false := by simp; omega
        rw [List.take_of_length_le (by omega)] at FI SM
        clear hk
        go_enter Tryd.func7, Tryd.ntmps7
        go_wp2_with fail
        refine L1.out.mono ?_
        rintro e w1 ⟨v, rfl, l1, b1⟩
        have B1 := Lib.hid b1
        have LX := Lib.hid l1
        obtain ⟨A, c, rfl, -⟩ := l1
        clear b1 L1
        go_wp2_with fail
        refine (FI.out _ (HG.out.below B1.out)).mono ?_
        rintro e w3 ⟨v3, rfl, l3, b3⟩
        have B3 := Lib.hid (B1.out.trans (b3.mono B1.out.size))
        have S3 := Lib.hid (Calls.below (SM.out _ _ _ l3 (LX.out.below b3)))
        clear l3 b3 SM LX B1
        go_wp2_with fail
        refine (S3.out).mono ?_
        rintro e w4 ⟨rfl, b4⟩
        have B4 := Lib.hid (B3.out.trans (b4.mono B3.out.size))
        clear b4 S3 B3
        go_wp2_with fail
        refine (rel (W := w) (example_holds _ (HG.out.below B4.out)) B4.out).mono ?_
        rintro e w5 ⟨rfl, b5⟩
        go_wp2_with fail
        go_ret
        exact ⟨rfl, b5⟩
  refine key ?_
  by_cases hn : n < 1
  · rw [if_pos hn] at hN
    exact Or.inl ⟨hn, by omega⟩
  · rw [if_neg hn] at hN
    exact Or.inr ⟨by omega, hN⟩
theorem split_or (s t : Nat) (hs : W64 s) (ht : W64 t) : diffB s t ||| (s &&& t) = s := by
  refine same_bits (or_lt (diff_lt hs) (and_lt hs)) hs fun j hj => ?_
  rw [Nat.testBit_or, diff_bit _ _ ht j hj, Nat.testBit_and]
  cases s.testBit j <;> cases t.testBit j <;> rfl
set_option maxHeartbeats 4000000 in
theorem algebra_law (s : Nat) (hs : W64 s) (t : Nat) (ht : W64 t) (w : World) (hg : Good w) : Calls Tryd.prog 8 #[.int .u64 (s : Int), .int .u64 (t : Int)] w fun e w' => e = .returned (.bool true) ∧ Below w.heap.size w w' := by
  have HG := Lib.hid hg
  have L := Lib.hid (list_any s hs w hg)
  have O := Lib.hid (fun v W (hW : LstI W v (intN (elems s))) => of_any v _ (by have := intN_few s; omega) W hW)
  rw [show setOfL (intN (elems s)) = s from set_elems hs] at O
  have M := Lib.hid (fun W => minus_any s t hs ht W)
  have I := Lib.hid (fun W => intersect_any s t hs ht W)
  have U := Lib.hid (fun W => union_any (diffB s t) (s &&& t) (diff_lt hs) (and_lt hs) W)
  rw [split_or s t hs ht] at U
  have D := Lib.hid (fun W => within_any s t hs ht W)
  have N1 := Lib.hid (fun W => len_any s hs W)
  have N2 := Lib.hid (fun W => len_any t ht W)
  have V := Lib.hid (fun W => union_any s t hs ht W)
  have N3 := Lib.hid (fun W => len_any (s ||| t) (or_lt hs ht) W)
  have N4 := Lib.hid (fun W => len_any (s &&& t) (and_lt hs) W)
  have C := card_sum s t
  have l1 := elems_len s
  have l2 := elems_len t
  have l3 := elems_len (s ||| t)
  have l4 := elems_len (s &&& t)
  clear hg hs ht
  generalize intN (elems s) = l at L O
  generalize (elems s).length = n1 at N1 C l1
  generalize (elems t).length = n2 at N2 C l2
  generalize (elems (s ||| t)).length = n3 at N3 C l3
  generalize (elems (s &&& t)).length = n4 at N4 C l4
  have g1 := eqw s
  have g2 := eqn s
  have g3 : ((n1 : Int) + n2 == (n3 : Int) + n4) = true := beq_true (by omega)
  have g4 : (n1 + n2 == n3 + n4) = true := by simp; omega
  generalize s ||| t = x at V N3
  generalize s &&& t = y at I U N4
  generalize diffB s t = z at M D U
  clear C
  by_cases hz : z = 0
  all_goals
    have d : decide (z = 0) = decide (z = 0) := rfl
    first
      | (rw [decide_eq_true hz] at D; have k1 : ((z : Int) == 0) = true := beq_true (by omega); have k2 : (z == 0) = true := by simp [hz])
      | (rw [decide_eq_false hz] at D; have k1 : ((z : Int) == 0) = false := beq_false (by omega); have k2 : (z == 0) = false := by simp [hz])
    clear hz d
    go_enter Tryd.func8, Tryd.ntmps8
    go_wp2_with fail
    refine L.out.mono ?_
    rintro e w1 ⟨v, rfl, q1, b1⟩
    have B1 := Lib.hid b1
    have O1 := Lib.hid (O.out _ _ q1)
    clear b1 q1 L O
    go_wp2_with fail
    refine (O1.out).mono ?_
    rintro e w' ⟨rfl, rfl⟩
    go_wp2_with fail
    refine (M.out _).mono ?_
    rintro e w' ⟨rfl, rfl⟩
    go_wp2_with fail
    refine (I.out _).mono ?_
    rintro e w' ⟨rfl, rfl⟩
    go_wp2_with fail
    refine (U.out _).mono ?_
    rintro e w' ⟨rfl, rfl⟩
    go_wp2_with fail
    refine (D.out _).mono ?_
    rintro e w' ⟨rfl, rfl⟩
    go_wp2_with fail
    refine (M.out _).mono ?_
    rintro e w' ⟨rfl, rfl⟩
    go_wp2_with fail
    refine (N1.out _).mono ?_
    rintro e w' ⟨rfl, rfl⟩
    go_wp2_with fail
    refine (N2.out _).mono ?_
    rintro e w' ⟨rfl, rfl⟩
    go_wp2_with fail
    refine (V.out _).mono ?_
    rintro e w' ⟨rfl, rfl⟩
    go_wp2_with fail
    refine (N3.out _).mono ?_
    rintro e w' ⟨rfl, rfl⟩
    go_wp2_with fail
    refine (I.out _).mono ?_
    rintro e w' ⟨rfl, rfl⟩
    go_wp2_with fail
    refine (N4.out _).mono ?_
    rintro e w' ⟨rfl, rfl⟩
    go_wp2_with fail
    refine (rel (W := w) (example_holds _ (HG.out.below B1.out)) B1.out).mono ?_
    rintro e w5 ⟨rfl, b5⟩
    go_wp2_with fail
    go_ret
    exact ⟨rfl, b5⟩
end Go.Proofs.YtdgbahmecjcljaaDoor
