/-
  The chapter's examples hold. Condition: none.
-/
import Derived.Test.YtkadgmihaccogaaCXor
import Derived.Lib.SlBytesConst
namespace Go.Proofs.Ytkadgmihaccogaa
open Go.RowKit

def digits9 : List UInt8 := [49, 50, 51, 52, 53, 54, 55, 56, 57]
theorem crc9 : crc digits9 = 3421780262 := by kernel_rfl
theorem crc0 : crc [] = 0 := by kernel_rfl
theorem verE1 : verE [0, 0, 0, 1] = 38 := by kernel_rfl
theorem verL1 : verL [0, 0, 0, 1] = [] := by kernel_rfl
theorem seal0 : sealL [] = [0, 0, 0, 0] := by kernel_rfl
set_option maxHeartbeats 1000000 in
theorem ex_any (w : World) : Calls Try.prog 11 #[] w fun e w' => e = .returned (.bool true) ∧ Below w.heap.size w w' := by
  have V := Lib.hid (verify_any (.slice (some ⟨w.heap.size, 0, none⟩) 4 4) [0, 0, 0, 1] (by decide) _ (lstb_lit w (0, 0) #[.int .u8 0, .int .u8 0, .int .u8 0, .int .u8 1] [0, 0, 0, 1] rfl 4 rfl))
  rw [verE1, verL1] at V
  go_enter Try.func11, Try.ntmps11
  go_wp2_with fail
  refine V.out.mono ?_
  rintro e w1 ⟨u1, rfl, -, b1⟩
  have B1 := Lib.hid (((Below.refl w.heap.size w).alloc (Nat.le_refl _) _).trans (b1.mono (by simp)))
  clear b1 V
  have C := Lib.hid (crc_any (.slice (some ⟨w1.heap.size, 0, none⟩) 9 9) digits9 (by decide) _ (lstb_lit w1 (9, 10) #[.int .u8 49, .int .u8 50, .int .u8 51, .int .u8 52, .int .u8 53, .int .u8 54, .int .u8 55, .int .u8 56, .int .u8 57] digits9 rfl 9 rfl))
  rw [crc9] at C
  have K := Lib.run_convert_bytes_const (P := Try.prog) w1 22 5 #[.int .u8 49, .int .u8 50, .int .u8 51, .int .u8 52, .int .u8 53, .int .u8 54, .int .u8 55, .int .u8 56, .int .u8 57] 9 9 Try.underlying22 Try.underlying5
  go_wp2_with fail
  refine C.out.mono ?_
  rintro e w2 ⟨rfl, b2⟩
  have B2 := Lib.hid ((B1.out.alloc B1.out.size _).trans (b2.mono (by have := B1.out.size; simp; omega)))
  clear b2 C
  have D := Lib.hid (crc_any (.slice none 0 0) [] (by decide) w2 (LstB.nil _))
  rw [crc0] at D
  go_wp2_with fail
  refine D.out.mono ?_
  rintro e w3 ⟨rfl, b3⟩
  have B3 := Lib.hid (B2.out.trans (b3.mono B2.out.size))
  clear b3 D
  have A := Lib.hid (append_any (.slice none 0 0) [] (by decide) w3 (LstB.nil _))
  rw [seal0] at A
  go_wp2_with fail
  refine A.out.mono ?_
  rintro e w4 ⟨u4, rfl, o4, b4⟩
  have B4 := Lib.hid (B3.out.trans (b4.mono B3.out.size))
  clear b4 A
  have S := Lib.hid (same_any u4 (.slice (some ⟨w4.heap.size, 0, none⟩) 4 4) [0, 0, 0, 0] [0, 0, 0, 0] _ (o4.lst.below ((Below.refl _ _).alloc (Nat.le_refl _) _)) (lstb_lit w4 (0, 0) #[.int .u8 0, .int .u8 0, .int .u8 0, .int .u8 0] [0, 0, 0, 0] rfl 4 rfl))
  rw [show decide (([0, 0, 0, 0] : List UInt8) = [0, 0, 0, 0]) = true by decide] at S
  clear o4
  go_wp2_with fail
  refine S.out.mono ?_
  rintro e w' ⟨rfl, rfl⟩
  go_wp2_with fail
  go_ret
  exact ⟨rfl, B4.out.alloc B4.out.size _⟩
end Go.Proofs.Ytkadgmihaccogaa
