/-
  The chapter's examples hold. Condition: none.
-/
import Derived.Test.YteojfgpinmpocaaEL
namespace Go.Proofs.Yteojfgpinmpocaa
open Go.RowKit

theorem x1 : rU [128, 0] 0 = (0, 0, 3) := by kernel_rfl
theorem x2 : rU [128] 0 = (0, 0, 4) := by kernel_rfl
theorem x3 : rB [2, 7, 8] 0 1 = ([], 0, 5) := by kernel_rfl
theorem x4 : rB [9, 2, 7, 8] 1 2 = ([7, 8], 4, 0) := by kernel_rfl
theorem x5 : rI [3] 0 = (-2, 1, 0) := by kernel_rfl
theorem x6 : rL [2, 2, 1] 0 5 = ([1, -1], 3, 0) := by kernel_rfl
theorem x7 : rT [1] 0 = (true, 1, 0) := by kernel_rfl
theorem x8 : putU 300 = [172, 2] := by kernel_rfl
theorem x9 : putI (-2) = [3] := by kernel_rfl
theorem x10 : putB [7, 8] = [2, 7, 8] := by kernel_rfl
theorem x11 : putL [1, -1] = [2, 2, 1] := by kernel_rfl
theorem x12 : putT true = [1] := by kernel_rfl
theorem I64_one : ∀ x ∈ ([1, -1] : List Int), I64 x := by intro x hx; simp at hx; unfold I64; omega
set_option maxRecDepth 100000 in
set_option maxHeartbeats 2000000 in
theorem ex_any (w : World) : Calls Try.prog 19 #[] w fun e w' => e = .returned (.bool true) ∧ Below w.heap.size w w' := by
  have B := Lib.hid (Below.refl w.heap.size w)
  go_enter Try.func19, Try.ntmps19
  obtain ⟨a1, ha1⟩ : ∃ x, w.alloc (.cells #[.int .u8 128, .int .u8 0] 5 (0, 0)) = x := ⟨_, rfl⟩
  have L : Hid (LstB a1 (.slice (some ⟨w.heap.size, 0, none⟩) 2 2) [128, 0]) := by rw [← ha1]; exact lstb_lit w (0, 0) _ [128, 0] rfl 2 rfl
  have NB : Hid (Below w.heap.size w a1) := by rw [← ha1]; exact (Below.refl _ _).alloc (Nat.le_refl _) _
  have B2 : Hid (Below w.heap.size w a1) := B.out.trans (NB.out.mono B.out.size)
  clear NB B 
  have B := B2
  clear B2 
  have M := Lib.hid (uint_any _ _ (by decide) 0 a1 L.out)
  rw [x1] at M
  go_wp2_with fail
  refine M.out.mono ?_
  rintro e w' ⟨rfl, rfl⟩
  clear M L
  obtain ⟨a2, ha2⟩ : ∃ x, a1.alloc (.cells #[.int .u8 128] 5 (0, 0)) = x := ⟨_, rfl⟩
  have L : Hid (LstB a2 (.slice (some ⟨a1.heap.size, 0, none⟩) 1 1) [128]) := by rw [← ha2]; exact lstb_lit a1 (0, 0) _ [128] rfl 1 rfl
  have NB : Hid (Below a1.heap.size a1 a2) := by rw [← ha2]; exact (Below.refl _ _).alloc (Nat.le_refl _) _
  have B2 : Hid (Below w.heap.size w a2) := B.out.trans (NB.out.mono B.out.size)
  clear NB B 
  have B := B2
  clear B2 
  have M := Lib.hid (uint_any _ _ (by decide) 0 a2 L.out)
  rw [x2] at M
  go_wp2_with fail
  refine M.out.mono ?_
  rintro e w' ⟨rfl, rfl⟩
  clear M L
  obtain ⟨a3, ha3⟩ : ∃ x, a2.alloc (.cells #[.int .u8 2, .int .u8 7, .int .u8 8] 5 (0, 0)) = x := ⟨_, rfl⟩
  have L : Hid (LstB a3 (.slice (some ⟨a2.heap.size, 0, none⟩) 3 3) [2, 7, 8]) := by rw [← ha3]; exact lstb_lit a2 (0, 0) _ [2, 7, 8] rfl 3 rfl
  have NB : Hid (Below a2.heap.size a2 a3) := by rw [← ha3]; exact (Below.refl _ _).alloc (Nat.le_refl _) _
  have B2 : Hid (Below w.heap.size w a3) := B.out.trans (NB.out.mono B.out.size)
  clear NB B 
  have B := B2
  clear B2 
  have M := Lib.hid (bytes_any _ _ (by decide) 0 1 (by decide) a3 L.out)
  rw [x3] at M
  go_wp2_with fail
  refine M.out.mono ?_
  rintro e a4 ⟨u3, rfl, ow, bw⟩
  have OW := Lib.hid ow
  have NB := Lib.hid bw
  clear M ow bw L
  have B2 : Hid (Below w.heap.size w a4) := B.out.trans (NB.out.mono B.out.size)
  clear NB B 
  have B := B2
  clear B2 
  clear OW
  obtain ⟨a5, ha5⟩ : ∃ x, a4.alloc (.cells #[.int .u8 9, .int .u8 2, .int .u8 7, .int .u8 8] 5 (0, 0)) = x := ⟨_, rfl⟩
  have L : Hid (LstB a5 (.slice (some ⟨a4.heap.size, 0, none⟩) 4 4) [9, 2, 7, 8]) := by rw [← ha5]; exact lstb_lit a4 (0, 0) _ [9, 2, 7, 8] rfl 4 rfl
  have NB : Hid (Below a4.heap.size a4 a5) := by rw [← ha5]; exact (Below.refl _ _).alloc (Nat.le_refl _) _
  have B2 : Hid (Below w.heap.size w a5) := B.out.trans (NB.out.mono B.out.size)
  clear NB B 
  have B := B2
  clear B2 
  have M := Lib.hid (bytes_any _ _ (by decide) 1 2 (by decide) a5 L.out)
  rw [x4] at M
  go_wp2_with fail
  refine M.out.mono ?_
  rintro e a6 ⟨u4, rfl, ow, bw⟩
  have OW := Lib.hid ow
  have NB := Lib.hid bw
  clear M ow bw L
  have B2 : Hid (Below w.heap.size w a6) := B.out.trans (NB.out.mono B.out.size)
  clear NB B 
  have B := B2
  clear B2 
  have S4 := OW
  clear OW
  obtain ⟨a7, ha7⟩ : ∃ x, a6.alloc (.cells #[.int .u8 3] 5 (0, 0)) = x := ⟨_, rfl⟩
  have L : Hid (LstB a7 (.slice (some ⟨a6.heap.size, 0, none⟩) 1 1) [3]) := by rw [← ha7]; exact lstb_lit a6 (0, 0) _ [3] rfl 1 rfl
  have NB : Hid (Below a6.heap.size a6 a7) := by rw [← ha7]; exact (Below.refl _ _).alloc (Nat.le_refl _) _
  have B2 : Hid (Below w.heap.size w a7) := B.out.trans (NB.out.mono B.out.size)
  have S42 := Lib.hid (S4.out.below NB.out)
  clear NB B S4
  have B := B2
  have S4 := S42
  clear B2 S42
  have M := Lib.hid (int_any _ _ (by decide) 0 a7 L.out)
  rw [x5] at M
  go_wp2_with fail
  refine M.out.mono ?_
  rintro e w' ⟨rfl, rfl⟩
  clear M L
  obtain ⟨a8, ha8⟩ : ∃ x, a7.alloc (.cells #[.int .u8 2, .int .u8 2, .int .u8 1] 5 (0, 0)) = x := ⟨_, rfl⟩
  have L : Hid (LstB a8 (.slice (some ⟨a7.heap.size, 0, none⟩) 3 3) [2, 2, 1]) := by rw [← ha8]; exact lstb_lit a7 (0, 0) _ [2, 2, 1] rfl 3 rfl
  have NB : Hid (Below a7.heap.size a7 a8) := by rw [← ha8]; exact (Below.refl _ _).alloc (Nat.le_refl _) _
  have B2 : Hid (Below w.heap.size w a8) := B.out.trans (NB.out.mono B.out.size)
  have S42 := Lib.hid (S4.out.below NB.out)
  clear NB B S4
  have B := B2
  have S4 := S42
  clear B2 S42
  have M := Lib.hid (ints_any _ _ (by decide) 0 5 (by decide) a8 L.out)
  rw [x6] at M
  go_wp2_with fail
  refine M.out.mono ?_
  rintro e a9 ⟨u6, rfl, ow, bw⟩
  have OW := Lib.hid ow
  have NB := Lib.hid bw
  clear M ow bw L
  have B2 : Hid (Below w.heap.size w a9) := B.out.trans (NB.out.mono B.out.size)
  have S42 := Lib.hid (S4.out.below NB.out)
  clear NB B S4
  have B := B2
  have S4 := S42
  clear B2 S42
  obtain ⟨A6, c6, rfl, -, -, hx6⟩ := OW.out.lst
  have X6 : Hid (OwnI a9 _ _ [1, -1]) := OW
  obtain ⟨q6, r6, rfl, hq6, hc6⟩ := hx6 (by decide)
  clear OW hc6 hq6
  obtain ⟨a10, ha10⟩ : ∃ x, a9.alloc (.cells #[.int .u8 1] 5 (0, 0)) = x := ⟨_, rfl⟩
  have L : Hid (LstB a10 (.slice (some ⟨a9.heap.size, 0, none⟩) 1 1) [1]) := by rw [← ha10]; exact lstb_lit a9 (0, 0) _ [1] rfl 1 rfl
  have NB : Hid (Below a9.heap.size a9 a10) := by rw [← ha10]; exact (Below.refl _ _).alloc (Nat.le_refl _) _
  have B2 : Hid (Below w.heap.size w a10) := B.out.trans (NB.out.mono B.out.size)
  have S42 := Lib.hid (S4.out.below NB.out)
  have X62 := Lib.hid (X6.out.below NB.out)
  clear NB B S4 X6
  have B := B2
  have S4 := S42
  have X6 := X62
  clear B2 S42 X62
  have M := Lib.hid (bool_any _ _ (by decide) 0 a10 L.out)
  rw [x7] at M
  go_wp2_with fail
  refine M.out.mono ?_
  rintro e w' ⟨rfl, rfl⟩
  clear M L
  have M := Lib.hid (puint_any 300 (by decide) a10)
  rw [x8] at M
  go_wp2_with fail
  refine M.out.mono ?_
  rintro e a11 ⟨u8, rfl, ow, bw⟩
  have OW := Lib.hid ow
  have NB := Lib.hid bw
  clear M ow bw
  have B2 : Hid (Below w.heap.size w a11) := B.out.trans (NB.out.mono B.out.size)
  have S42 := Lib.hid (S4.out.below NB.out)
  have X62 := Lib.hid (X6.out.below NB.out)
  clear NB B S4 X6
  have B := B2
  have S4 := S42
  have X6 := X62
  clear B2 S42 X62
  have C := conv_lit (s := ⟨#[172, 2]⟩) OW.out rfl
  clear OW
  have M := Lib.hid (pint_any (-2) (by decide) a11)
  rw [x9] at M
  go_wp2_with fail
  refine M.out.mono ?_
  rintro e a12 ⟨u9, rfl, ow, bw⟩
  have OW := Lib.hid ow
  have NB := Lib.hid bw
  clear M ow bw
  have B2 : Hid (Below w.heap.size w a12) := B.out.trans (NB.out.mono B.out.size)
  have S42 := Lib.hid (S4.out.below NB.out)
  have X62 := Lib.hid (X6.out.below NB.out)
  clear NB B S4 X6
  have B := B2
  have S4 := S42
  have X6 := X62
  clear B2 S42 X62
  have C := conv_lit (s := ⟨#[3]⟩) OW.out rfl
  clear OW
  obtain ⟨a13, ha13⟩ : ∃ x, a12.alloc (.cells #[.int .u8 7, .int .u8 8] 5 (0, 0)) = x := ⟨_, rfl⟩
  have L : Hid (LstB a13 (.slice (some ⟨a12.heap.size, 0, none⟩) 2 2) [7, 8]) := by rw [← ha13]; exact lstb_lit a12 (0, 0) _ [7, 8] rfl 2 rfl
  have NB : Hid (Below a12.heap.size a12 a13) := by rw [← ha13]; exact (Below.refl _ _).alloc (Nat.le_refl _) _
  have B2 : Hid (Below w.heap.size w a13) := B.out.trans (NB.out.mono B.out.size)
  have S42 := Lib.hid (S4.out.below NB.out)
  have X62 := Lib.hid (X6.out.below NB.out)
  clear NB B S4 X6
  have B := B2
  have S4 := S42
  have X6 := X62
  clear B2 S42 X62
  have M := Lib.hid (pbytes_any _ _ (by decide) a13 L.out)
  rw [x10] at M
  go_wp2_with fail
  refine M.out.mono ?_
  rintro e a14 ⟨u10, rfl, ow, bw⟩
  have OW := Lib.hid ow
  have NB := Lib.hid bw
  clear M ow bw L
  have B2 : Hid (Below w.heap.size w a14) := B.out.trans (NB.out.mono B.out.size)
  have S42 := Lib.hid (S4.out.below NB.out)
  have X62 := Lib.hid (X6.out.below NB.out)
  clear NB B S4 X6
  have B := B2
  have S4 := S42
  have X6 := X62
  clear B2 S42 X62
  have C := conv_lit (s := ⟨#[2, 7, 8]⟩) OW.out rfl
  clear OW
  obtain ⟨a15, ha15⟩ : ∃ x, a14.alloc (.cells #[.int .i64 1, .int .i64 (-1)] 3 (0, 0)) = x := ⟨_, rfl⟩
  have L : Hid (LstI a15 (.slice (some ⟨a14.heap.size, 0, none⟩) 2 2) [1, -1]) := by rw [← ha15]; exact lsti_lit a14 _ [1, -1] rfl 2 rfl
  have NB : Hid (Below a14.heap.size a14 a15) := by rw [← ha15]; exact (Below.refl _ _).alloc (Nat.le_refl _) _
  have B2 : Hid (Below w.heap.size w a15) := B.out.trans (NB.out.mono B.out.size)
  have S42 := Lib.hid (S4.out.below NB.out)
  have X62 := Lib.hid (X6.out.below NB.out)
  clear NB B S4 X6
  have B := B2
  have S4 := S42
  have X6 := X62
  clear B2 S42 X62
  have M := Lib.hid (pints_any _ _ (by decide) I64_one a15 L.out)
  rw [x11] at M
  go_wp2_with fail
  refine M.out.mono ?_
  rintro e a16 ⟨u11, rfl, ow, bw⟩
  have OW := Lib.hid ow
  have NB := Lib.hid bw
  clear M ow bw L
  have B2 : Hid (Below w.heap.size w a16) := B.out.trans (NB.out.mono B.out.size)
  have S42 := Lib.hid (S4.out.below NB.out)
  have X62 := Lib.hid (X6.out.below NB.out)
  clear NB B S4 X6
  have B := B2
  have S4 := S42
  have X6 := X62
  clear B2 S42 X62
  have C := conv_lit (s := ⟨#[2, 2, 1]⟩) OW.out rfl
  clear OW
  have M := Lib.hid (pbool_any true a16)
  rw [x12] at M
  go_wp2_with fail
  refine M.out.mono ?_
  rintro e a17 ⟨u12, rfl, ow, bw⟩
  have OW := Lib.hid ow
  have NB := Lib.hid bw
  clear M ow bw
  have B2 : Hid (Below w.heap.size w a17) := B.out.trans (NB.out.mono B.out.size)
  have S42 := Lib.hid (S4.out.below NB.out)
  have X62 := Lib.hid (X6.out.below NB.out)
  clear NB B S4 X6
  have B := B2
  have S4 := S42
  have X6 := X62
  clear B2 S42 X62
  have C := conv_lit (s := ⟨#[1]⟩) OW.out rfl
  clear OW
  have C4 := conv_lit (s := ⟨#[7, 8]⟩) S4.out rfl
  obtain ⟨A7, c7, hv, -, -, hx7⟩ := X6.out.lst
  obtain ⟨q7, r7, hA, hq7, hc7⟩ := hx7 (by decide)
  rw [hA] at hv
  cases hv
  have m0 := hc7 0 _ rfl
  have m1 := hc7 1 _ rfl
  rw [Nat.add_zero] at m0
  clear hx7 hc7 hA
  go_wp2_with fail
  go_ret
  exact ⟨rfl, B.out⟩
end Go.Proofs.Yteojfgpinmpocaa
