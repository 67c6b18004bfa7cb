/-
  The laws' examples (exampleHolds) and least: what each call answers; nothing that existed before the call has changed behind it. Condition: none for the examples.
-/
import Derived.Test.YtahbgafjljfndaaTLaw
namespace Go.Proofs.Ytahbgafjljfndaa
open Go.RowKit

/-! ### The examples -/
def exL : List Er := [(0, 1, 5), (1, 2, 5), (0, 2, 10)]
def exM : List Er := [(2, 0, 0)]
theorem ex_one : chkK 3 exL [0] = 0 ∧ ansD 3 exL 0 = [0, 5, 10] := by decide +kernel
theorem ex_two : ansP 3 exL 0 2 = ([0, 2], 10, 0) := by decide +kernel
theorem ex_three : ansP 3 exL 2 0 = ([], 0, 7) := by decide +kernel
theorem ex_four : chkR 4 exM = 0 ∧ ansC 4 exM = [0, 1, 0, 2] := by decide +kernel
set_option maxRecDepth 100000 in
set_option maxHeartbeats 4000000 in
theorem ex_any (w : World) : Calls Try.prog 10 #[] w fun e w' => e = .returned (.bool true) ∧ Below w.heap.size w w' := by
  obtain ⟨w1, hw1⟩ : ∃ x, w.alloc (.cells #[.int .i64 0, .int .i64 1, .int .i64 5, .int .i64 1, .int .i64 2, .int .i64 5, .int .i64 0, .int .i64 2, .int .i64 10] 47 (0, 0)) = x := ⟨_, rfl⟩
  have b1 : Below w.heap.size w w1 := by rw [← hw1]; exact (Below.refl _ _).alloc (Nat.le_refl _) _
  have L1 : Hid (LstR w1 (.slice (some ⟨w.heap.size, 0, none⟩) 3 3) exL) := by
    show LstR _ _ _
    rw [← hw1]
    exact lstG_lit w _ _ exL rfl 3 rfl
  have B1 := Lib.hid b1
  clear b1
  go_enter Try.func10, Try.ntmps10
  go_wp2_with fail
  refine (kdist_any 3 0 _ exL (by decide) w1 L1.out).mono ?_
  rintro e w2 ⟨u2, rfl, o2, b2⟩
  rw [ex_one.1] at *
  rw [ex_one.2] at o2
  have B2 : Hid (Below w.heap.size w w2) := B1.out.trans (b2.mono B1.out.size)
  have L2 := Lib.hid (L1.out.below b2)
  have D2 : Hid (LstI w2 u2 [0, 5, 10]) := OwnI.lst o2
  clear o2 b2 B1 L1 hw1
  go_wp2_with fail
  refine (kpath_any 3 0 2 _ exL (by decide) w2 L2.out).mono ?_
  rintro e w3 ⟨u3, rfl, o3, b3⟩
  rw [ex_two] at *
  have B3 : Hid (Below w.heap.size w w3) := B2.out.trans (b3.mono B2.out.size)
  have L3 := Lib.hid (L2.out.below b3)
  have D3 := Lib.hid (D2.out.below b3)
  have P3 : Hid (LstI w3 u3 [0, 2]) := OwnI.lst o3
  clear o3 b3 B2 L2 D2
  go_wp2_with fail
  refine (kpath_any 3 2 0 _ exL (by decide) w3 L3.out).mono ?_
  rintro e w4 ⟨u4, rfl, o4, b4⟩
  rw [ex_three] at *
  have B4 : Hid (Below w.heap.size w w4) := B3.out.trans (b4.mono B3.out.size)
  have D4 := Lib.hid (D3.out.below b4)
  have P4 := Lib.hid (P3.out.below b4)
  clear o4 b4 B3 L3 D3 P3
  go_wp2_with fail
  have b45 : Below w4.heap.size w4 (w4.alloc (.cells #[.int .i64 2, .int .i64 0, .int .i64 0] 47 (0, 0))) := (Below.refl _ _).alloc (Nat.le_refl _) _
  refine (kcomp_any 4 _ exM (by decide) _ (lstG_lit w4 #[.int .i64 2, .int .i64 0, .int .i64 0] 47 exM rfl 1 rfl)).mono ?_
  rintro e w5 ⟨u5, rfl, o5, b5⟩
  rw [ex_four.1] at *
  rw [ex_four.2] at o5
  have B5 : Hid (Below w.heap.size w w5) := (B4.out.trans (b45.mono B4.out.size)).trans (b5.mono (Nat.le_trans B4.out.size b45.size))
  have C5 : Hid (LstI w5 u5 [0, 1, 0, 2]) := OwnI.lst o5
  have D5 := Lib.hid ((D4.out.below b45).below b5)
  have P5 := Lib.hid ((P4.out.below b45).below b5)
  clear o5 b5 b45 B4 D4 P4
  have b56 : Below w5.heap.size w5 (w5.alloc (.cells #[.int .i64 0, .int .i64 5, .int .i64 10] 3 (0, 0))) := (Below.refl _ _).alloc (Nat.le_refl _) _
  have S1 := Lib.hid (Calls.below (same_any u2 (.slice (some ⟨w5.heap.size, 0, none⟩) 3 3) [0, 5, 10] [0, 5, 10] (by decide) _ (D5.out.below b56) (lsti_lit w5 #[.int .i64 0, .int .i64 5, .int .i64 10] [0, 5, 10] rfl 3 rfl)))
  have B6 := Lib.hid (B5.out.trans (b56.mono B5.out.size))
  have C6 := Lib.hid (C5.out.below b56)
  have P6 := Lib.hid (P5.out.below b56)
  clear b56 B5 D5 C5 P5
  go_wp2_with fail
  refine S1.out.mono ?_
  rintro e w7 ⟨rfl, b7⟩
  have B7 := Lib.hid (B6.out.trans (b7.mono B6.out.size))
  have C7 := Lib.hid (C6.out.below b7)
  have P7 := Lib.hid (P6.out.below b7)
  clear b7 B6 C6 P6 S1
  have b78 : Below w7.heap.size w7 (w7.alloc (.cells #[.int .i64 0, .int .i64 2] 3 (0, 0))) := (Below.refl _ _).alloc (Nat.le_refl _) _
  have S2 := Lib.hid (Calls.below (same_any u3 (.slice (some ⟨w7.heap.size, 0, none⟩) 2 2) [0, 2] [0, 2] (by decide) _ (P7.out.below b78) (lsti_lit w7 #[.int .i64 0, .int .i64 2] [0, 2] rfl 2 rfl)))
  have B8 := Lib.hid (B7.out.trans (b78.mono B7.out.size))
  have C8 := Lib.hid (C7.out.below b78)
  clear b78 B7 C7 P7
  go_wp2_with fail
  refine S2.out.mono ?_
  rintro e w9 ⟨rfl, b9⟩
  have B9 := Lib.hid (B8.out.trans (b9.mono B8.out.size))
  have C9 := Lib.hid (C8.out.below b9)
  clear b9 B8 C8 S2
  have b90 : Below w9.heap.size w9 (w9.alloc (.cells #[.int .i64 0, .int .i64 1, .int .i64 0, .int .i64 2] 3 (0, 0))) := (Below.refl _ _).alloc (Nat.le_refl _) _
  have S3 := Lib.hid (Calls.below (same_any u5 (.slice (some ⟨w9.heap.size, 0, none⟩) 4 4) [0, 1, 0, 2] [0, 1, 0, 2] (by decide) _ (C9.out.below b90) (lsti_lit w9 #[.int .i64 0, .int .i64 1, .int .i64 0, .int .i64 2] [0, 1, 0, 2] rfl 4 rfl)))
  have B10 := Lib.hid (B9.out.trans (b90.mono B9.out.size))
  clear b90 B9 C9
  go_wp2_with fail
  refine S3.out.mono ?_
  rintro e w11 ⟨rfl, b11⟩
  have B11 := Lib.hid (B10.out.trans (b11.mono B10.out.size))
  clear b11 B10 S3
  go_wp2_with fail
  go_ret
  exact ⟨rfl, B11.out⟩
end Go.Proofs.Ytahbgafjljfndaa
