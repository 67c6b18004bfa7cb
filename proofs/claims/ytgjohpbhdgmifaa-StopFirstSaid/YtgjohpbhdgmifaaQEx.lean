/-
  The laws' examples (exampleHolds): what the call answers; nothing that existed before the call has changed behind it. Condition: none.
-/
import Derived.Test.YtgjohpbhdgmifaaQZon
import Derived.Test.YtgjohpbhdgmifaaQRChk
import Derived.Test.YtgjohpbhdgmifaaQSame
namespace Go.Proofs.Ytgjohpbhdgmifaa
open Go.RowKit

def exS : List St := [([65], 2, false, 120), ([66], 2, true, 0)]
def exD : List St := [([65], 2, false, 0), ([65], 2, false, 0)]
def exR : List St := [([65], 2, false, 0), ([66], 16, false, 0)]
theorem few_id {ls : List St} (h : ls.all (fun x => decide (x.1.length ≤ 1048576)) = true) : ∀ (j : Nat) x, ls[j]? = some x → x.1.length ≤ 1048576 := fun j x hx => by
  rw [List.all_eq_true] at h
  exact of_decide_eq_true (h x (List.mem_iff_getElem?.2 ⟨j, hx⟩))
theorem ex_chk : chkT exS = (0, 0) := by decide +kernel
theorem ex_fnd : fndT exS [66] = 1 := by decide +kernel
theorem ex_zon : zonT exS = 4 := by decide +kernel
theorem ex_in : inT exS 2 = [0, 1] := by decide +kernel
theorem ex_fre : freT exS = 2 := by decide +kernel
theorem ex_dup : chkT exD = (1, 6) := by decide +kernel
theorem ex_far : chkT exR = (1, 2) := by decide +kernel
set_option maxRecDepth 100000 in
set_option maxHeartbeats 4000000 in
theorem ex_any (w : World) : Calls Try.prog 11 #[] w fun e w' => e = .returned (.bool true) ∧ Below w.heap.size w w' := by
  obtain ⟨w1, hw1⟩ : ∃ x, w.alloc (.cells #[.string ⟨#[65]⟩, .int .i64 2, .bool false, .int .i64 120, .string ⟨#[66]⟩, .int .i64 2, .bool true, .int .i64 0] 43 (0, 0)) = x := ⟨_, rfl⟩
  have B1 : Hid (Below w.heap.size w w1) := by rw [← hw1]; exact (Below.refl _ _).alloc (Nat.le_refl _) _
  have L1 : Hid (LstS w1 (.slice (some ⟨w.heap.size, 0, none⟩) 2 2) exS) := by
    show LstS _ _ _
    rw [← hw1]
    exact lstG_lit w _ _ exS rfl 2 rfl
  go_enter Try.func11, Try.ntmps11
  go_wp2_with fail
  refine (kcheck_any _ exS (by decide) (few_id (by decide)) w1 L1.out).mono ?_
  rw [ex_chk]
  rintro e w2 ⟨rfl, b2⟩
  have B2 : Hid (Below w.heap.size w w2) := B1.out.trans (b2.mono B1.out.size)
  have L2 := Lib.hid (L1.out.below b2)
  clear b2 B1 L1 hw1
  go_wp2_with fail
  refine (kfind_any _ exS (by decide) [66] ⟨#[66]⟩ rfl w2 L2.out).mono ?_
  rw [ex_fnd, show max (1 : Int) 0 = 1 by rfl, show decide ((0 : Int) ≤ 1) = true by rfl]
  rintro e w3 ⟨rfl, b3⟩
  have B3 : Hid (Below w.heap.size w w3) := B2.out.trans (b3.mono B2.out.size)
  have L3 := Lib.hid (L2.out.below b3)
  clear b3 B2 L2
  obtain ⟨w4, hw4⟩ : ∃ x, w3.alloc (.cells #[.string ⟨#[65]⟩, .int .i64 2, .bool false, .int .i64 0, .string ⟨#[65]⟩, .int .i64 2, .bool false, .int .i64 0] 43 (0, 0)) = x := ⟨_, rfl⟩
  have b34 : Below w3.heap.size w3 w4 := by rw [← hw4]; exact (Below.refl _ _).alloc (Nat.le_refl _) _
  have B4 : Hid (Below w.heap.size w w4) := B3.out.trans (b34.mono B3.out.size)
  have L4 := Lib.hid (L3.out.below b34)
  have D4 : Hid (LstS w4 (.slice (some ⟨w3.heap.size, 0, none⟩) 2 2) exD) := by
    show LstS _ _ _
    rw [← hw4]
    exact lstG_lit w3 _ _ exD rfl 2 rfl
  clear b34 B3 L3
  go_wp2_with fail
  refine (kcheck_any _ exD (by decide) (few_id (by decide)) w4 D4.out).mono ?_
  rw [ex_dup]
  rintro e w5 ⟨rfl, b5⟩
  have B5 : Hid (Below w.heap.size w w5) := B4.out.trans (b5.mono B4.out.size)
  have L5 := Lib.hid (L4.out.below b5)
  clear b5 B4 L4 D4 hw4
  obtain ⟨w6, hw6⟩ : ∃ x, w5.alloc (.cells #[.string ⟨#[65]⟩, .int .i64 2, .bool false, .int .i64 0, .string ⟨#[66]⟩, .int .i64 16, .bool false, .int .i64 0] 43 (0, 0)) = x := ⟨_, rfl⟩
  have b56 : Below w5.heap.size w5 w6 := by rw [← hw6]; exact (Below.refl _ _).alloc (Nat.le_refl _) _
  have B6 : Hid (Below w.heap.size w w6) := B5.out.trans (b56.mono B5.out.size)
  have L6 := Lib.hid (L5.out.below b56)
  have D6 : Hid (LstS w6 (.slice (some ⟨w5.heap.size, 0, none⟩) 2 2) exR) := by
    show LstS _ _ _
    rw [← hw6]
    exact lstG_lit w5 _ _ exR rfl 2 rfl
  clear b56 B5 L5
  go_wp2_with fail
  refine (kcheck_any _ exR (by decide) (few_id (by decide)) w6 D6.out).mono ?_
  rw [ex_far]
  rintro e w7 ⟨rfl, b7⟩
  have B7 : Hid (Below w.heap.size w w7) := B6.out.trans (b7.mono B6.out.size)
  have L7 := Lib.hid (L6.out.below b7)
  clear b7 B6 L6 D6 hw6
  go_wp2_with fail
  refine (kzones_any _ exS (by decide) w7 L7.out).mono ?_
  rw [ex_zon, show ((4 : Nat) : Int) = 4 by rfl]
  rintro e w8 ⟨rfl, b8⟩
  have B8 : Hid (Below w.heap.size w w8) := B7.out.trans (b8.mono B7.out.size)
  have L8 := Lib.hid (L7.out.below b8)
  clear b8 B7 L7
  go_wp2_with fail
  refine (kin_any _ exS (by decide) 2 w8 L8.out).mono ?_
  rw [ex_in]
  rintro e w9 ⟨u9, rfl, o9, b9⟩
  have B9 : Hid (Below w.heap.size w w9) := B8.out.trans (b9.mono B8.out.size)
  have L9 := Lib.hid (L8.out.below b9)
  have I9 : Hid (LstI w9 u9 [0, 1]) := OwnI.lst o9
  clear b9 B8 L8 o9
  obtain ⟨w10, hw10⟩ : ∃ x, w9.alloc (.cells #[.int .i64 0, .int .i64 1] 3 (0, 0)) = x := ⟨_, rfl⟩
  have b10 : Below w9.heap.size w9 w10 := by rw [← hw10]; exact (Below.refl _ _).alloc (Nat.le_refl _) _
  have B10 : Hid (Below w.heap.size w w10) := B9.out.trans (b10.mono B9.out.size)
  have L10 := Lib.hid (L9.out.below b10)
  have S1 := Lib.hid (Calls.below (same_any u9 (.slice (some ⟨w9.heap.size, 0, none⟩) 2 2) [0, 1] [0, 1] (by decide) w10 (I9.out.below b10) (by rw [← hw10]; exact lsti_lit w9 #[.int .i64 0, .int .i64 1] [0, 1] rfl 2 rfl)))
  clear b10 B9 L9 I9
  go_wp2_with fail
  refine S1.out.mono ?_
  rintro e w11 ⟨rfl, b11⟩
  have B11 : Hid (Below w.heap.size w w11) := B10.out.trans (b11.mono B10.out.size)
  have L11 := Lib.hid (L10.out.below b11)
  clear b11 B10 L10 S1 hw10
  go_wp2_with fail
  refine (kfree_any _ exS (by decide) w11 L11.out).mono ?_
  rw [ex_fre, show ((2 : Nat) : Int) = 2 by rfl]
  rintro e w12 ⟨rfl, b12⟩
  have B12 : Hid (Below w.heap.size w w12) := B11.out.trans (b12.mono B11.out.size)
  clear b12 B11 L11
  go_wp2_with fail
  go_ret
  exact ⟨rfl, B12.out⟩
end Go.Proofs.Ytgjohpbhdgmifaa
