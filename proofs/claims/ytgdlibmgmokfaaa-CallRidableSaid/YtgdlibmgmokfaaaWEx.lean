/-
  The laws' examples (exampleHolds): what the call answers; nothing that existed before the call has changed behind it. Condition: none.
-/
import Derived.Test.YtgdlibmgmokfaaaWRds
import Derived.Test.YtgdlibmgmokfaaaWChk
import Derived.Test.YtgdlibmgmokfaaaWAt
namespace Go.Proofs.Ytgdlibmgmokfaaa
open Go.RowKit

def exL : List Cl := [(0, 100, 110, true, false), (1, 200, 200, true, true), (0, 300, 300, false, true)]
theorem ex_good : chkC 2 100 300 exL = (0, 0) := by decide +kernel
theorem ex_time : chkC 2 101 300 exL = (0, 10) := by decide +kernel
theorem ex_ref : chkC 1 100 300 exL = (1, 9) := by decide +kernel
theorem ex_prs : (prsC exL).take 9 = [(0, 1), (0, 2), (1, 2)] := by decide +kernel
theorem ex_at : ixs (atC 0) exL = [0, 2] := by decide +kernel
theorem ex_dur : durC exL = 190 := by decide +kernel
theorem ex_cells {w : World} {A : Option Addr} {n c : Nat} (h : LstP w (.slice A n c) [(0, 1), (0, 2), (1, 2)]) : ∃ b f, A = some ⟨b, f, none⟩ ∧ w.cell? ⟨b, f, none⟩ = some (.int .i64 0) ∧ w.cell? ⟨b, f + 1, none⟩ = some (.int .i64 1) ∧
    w.cell? ⟨b, f + 2, none⟩ = some (.int .i64 0) ∧ w.cell? ⟨b, f + 3, none⟩ = some (.int .i64 2) ∧ w.cell? ⟨b, f + 4, none⟩ = some (.int .i64 1) ∧ w.cell? ⟨b, f + 5, none⟩ = some (.int .i64 2) := by
  obtain ⟨b, f, rfl, -, r0, r1⟩ := two_at h (i := 0) (x := 0) (y := 1) rfl
  obtain ⟨b', f', hA, -, q0, q1⟩ := two_at h (i := 1) (x := 0) (y := 2) rfl
  cases hA
  obtain ⟨b', f', hA, -, t0, t1⟩ := two_at h (i := 2) (x := 1) (y := 2) rfl
  cases hA
  exact ⟨b, f, rfl, r0, r1, q0, q1, t0, t1⟩
set_option maxRecDepth 100000 in
set_option maxHeartbeats 4000000 in
theorem ex_any (w : World) : Calls Try.prog 11 #[] w fun e w' => e = .returned (.bool true) ∧ Below w.heap.size w w' := by
  obtain ⟨w2, hw2⟩ : ∃ x, w.alloc (.cells #[.int .i64 0, .int .i64 100, .int .i64 110, .bool true, .bool false, .int .i64 1, .int .i64 200, .int .i64 200, .bool true, .bool true, .int .i64 0, .int .i64 300, .int .i64 300, .bool false, .bool true] 47 (0, 0)) = x := ⟨_, rfl⟩
  have B2 : Hid (Below w.heap.size w w2) := by
    rw [← hw2]
    exact (Below.refl _ _).alloc (Nat.le_refl _) _
  have L2 : Hid (LstC w2 (.slice (some ⟨w.heap.size, 0, none⟩) 3 3) exL) := by
    show LstC _ _ _
    rw [← hw2]
    exact lstG_lit w _ _ exL rfl 3 rfl
  have E1 := fun a c q (h : decide (a = 0 ∧ c = 1) = q) W => eql_pr a c 0 1 q h W
  go_enter Try.func11, Try.ntmps11
  go_wp2_with fail
  refine (kcheck_any _ exL (by decide) 2 100 300 w2 L2.out).mono ?_
  rw [ex_good]
  rintro e w3 ⟨rfl, b3⟩
  have B3 : Hid (Below w.heap.size w w3) := B2.out.trans (b3.mono B2.out.size)
  have L3 := Lib.hid (L2.out.below b3)
  clear b3 B2 L2 hw2
  go_wp2_with fail
  refine (kcheck_any _ exL (by decide) 2 101 300 w3 L3.out).mono ?_
  rw [ex_time]
  rintro e w4 ⟨rfl, b4⟩
  have B4 : Hid (Below w.heap.size w w4) := B3.out.trans (b4.mono B3.out.size)
  have L4 := Lib.hid (L3.out.below b4)
  clear b4 B3 L3
  go_wp2_with fail
  refine (kcheck_any _ exL (by decide) 1 100 300 w4 L4.out).mono ?_
  rw [ex_ref]
  rintro e w5 ⟨rfl, b5⟩
  have B5 : Hid (Below w.heap.size w w5) := B4.out.trans (b5.mono B4.out.size)
  have L5 := Lib.hid (L4.out.below b5)
  clear b5 B4 L4
  go_wp2_with fail
  refine (rides_any _ exL (by decide) 9 w5 L5.out).mono ?_
  rw [ex_prs]
  rintro e w6 ⟨u6, rfl, o6, b6⟩
  have B6 : Hid (Below w.heap.size w w6) := B5.out.trans (b6.mono B5.out.size)
  have L6 := Lib.hid (L5.out.below b6)
  have p6 := o6.lst
  obtain ⟨A, c, rfl, -, -, -⟩ := ownK_shape o6
  obtain ⟨b, f, rfl, r0, r1, r2, r3, r4, r5⟩ := ex_cells p6
  have Q1 := fun W => eql_pr 0 1 0 1 true rfl W
  have Q2 := fun W => eql_pr 0 2 0 2 true rfl W
  have Q3 := fun W => eql_pr 1 2 1 2 true rfl W
  simp only [List.length_cons, List.length_nil]
  clear b6 B5 L5 p6 o6 E1
  go_wp2_with fail
  refine (kat_any _ exL (by decide) 0 w6 L6.out).mono ?_
  rw [ex_at]
  rintro e w7 ⟨u7, rfl, o7, b7⟩
  have B7 : Hid (Below w.heap.size w w7) := B6.out.trans (b7.mono B6.out.size)
  have L7 := Lib.hid (L6.out.below b7)
  have I7 : Hid (LstI w7 u7 [0, 2]) := OwnI.lst o7
  clear b7 B6 L6 o7 r0 r1 r2 r3 r4 r5 Q1 Q2 Q3
  obtain ⟨w8, hw8⟩ : ∃ x, w7.alloc (.cells #[.int .i64 0, .int .i64 2] 3 (0, 0)) = x := ⟨_, rfl⟩
  have b8 : Below w7.heap.size w7 w8 := by rw [← hw8]; exact (Below.refl _ _).alloc (Nat.le_refl _) _
  have B8 : Hid (Below w.heap.size w w8) := B7.out.trans (b8.mono B7.out.size)
  have L8 := Lib.hid (L7.out.below b8)
  have S1 := Lib.hid (Calls.below (same_any u7 (.slice (some ⟨w7.heap.size, 0, none⟩) 2 2) [0, 2] [0, 2] (by decide) w8 (I7.out.below b8) (by rw [← hw8]; exact lsti_lit w7 #[.int .i64 0, .int .i64 2] [0, 2] rfl 2 rfl)))
  clear b8 B7 I7 L7
  go_wp2_with fail
  refine S1.out.mono ?_
  rintro e w9 ⟨rfl, b9⟩
  have B9 : Hid (Below w.heap.size w w9) := B8.out.trans (b9.mono B8.out.size)
  have D9 := Lib.hid (Calls.below (kdur_any _ exL (by decide) w9 (L8.out.below b9)))
  rw [ex_dur] at D9
  clear b9 B8 S1 hw8 L8
  go_wp2_with fail
  refine D9.out.mono ?_
  rintro e w10 ⟨rfl, b10⟩
  have B10 : Hid (Below w.heap.size w w10) := B9.out.trans (b10.mono B9.out.size)
  clear b10 B9 D9
  go_wp2_with fail
  go_ret
  exact ⟨rfl, B10.out⟩
end Go.Proofs.Ytgdlibmgmokfaaa
