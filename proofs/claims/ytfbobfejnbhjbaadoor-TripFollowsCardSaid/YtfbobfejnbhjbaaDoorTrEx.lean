/-
  The laws' exampleHolds: what the call answers; nothing that existed before the call has changed behind it. Condition: the table that numerals are made with.
-/
import Derived.Test.YtfbobfejnbhjbaaDoorTrEx0
namespace Go.Proofs.YtfbobfejnbhjbaaDoor
open Go.RowKit

/-- The table of exampleHolds' last region: what each operation waits for, the slot that it writes, the slots that it looks at. -/
def skEx : List Sk := [([], some 30, [2]), ([0], some 31, [30]), ([1], some 32, [31]), ([], some 33, []), ([2, 3], some 34, [32, 33]), ([4, 4], some 35, [34]), ([5], some 36, [2, 35]), ([6, 5], some 37, [36, 35]), ([7, 5], some 38, [37, 35]), ([5], some 39, [35]), ([8, 9, 5, 5], some 40, [38, 39, 35]), ([5, 10], some 41, [35, 40]), ([11, 10], some 42, [41]), ([12], some 43, [1, 42]), ([13, 12, 12], some 44, [43, 42]), ([12], some 45, [42]), ([14, 15, 14, 12], some 46, [44, 45, 42]), ([12, 16], some 47, [42, 46]), ([17, 16], some 48, [47]), ([18], some 49, [1, 48]), ([19, 18, 18], some 50, [49, 48]), ([18], some 51, [48]), ([20, 21, 20, 18], some 52, [50, 51, 48]), ([18, 22], some 53, [48, 52]), ([23, 22], some 54, [53]), ([24], some 55, [1, 54]), ([25, 24, 24], some 56, [55, 54]), ([26, 24], some 57, [56, 54]), ([27, 24], some 58, [57, 54]), ([24, 28], some 59, [54, 58]), ([29, 26], some 60, [59]), ([30], some 61, [1, 60]), ([31, 30], some 62, [61, 60]), ([32, 30], some 63, [62, 60]), ([30], some 64, [1, 60]), ([34, 30], some 65, [64, 60]), ([35, 30], some 66, [65, 60]), ([33, 36, 30, 30], some 67, [63, 66, 60]), ([30, 37], some 68, [60, 67]), ([38, 37], some 69, [68]), ([39], some 70, [1, 69]), ([40, 39], some 71, [70, 69]), ([41, 39], some 72, [71, 69]), ([39], some 73, [1, 69]), ([43, 39], some 74, [73, 69]), ([44, 39], some 75, [74, 69]), ([42, 45, 39, 39], some 76, [72, 75, 69]), ([46, 39], some 77, [76, 69]), ([39, 47], some 78, [69, 77]), ([48, 46], some 79, [78]), ([49], some 80, [1, 79]), ([50, 49], some 81, [80, 79]), ([51, 49], some 82, [81, 79]), ([49], some 83, [1, 79]), ([53, 49], some 84, [83, 79]), ([54, 49], some 85, [84, 79]), ([52, 55, 49, 49], some 86, [82, 85, 79]), ([56, 49], some 87, [86, 79]), ([49, 57], some 88, [79, 87]), ([58, 56], some 89, [88]), ([59], some 90, [3, 89]), ([60, 59], some 91, [90, 89]), ([59, 61], some 92, [89, 91]), ([62, 59], some 93, [92]), ([63], some 94, [4, 93]), ([64, 63], some 95, [94, 93]), ([63, 65], some 96, [93, 95]), ([66, 63], some 97, [96]), ([67], some 98, [5, 97]), ([68, 67], some 99, [98, 97]), ([67, 69], some 100, [97, 99]), ([70, 67], some 101, [100]), ([71], some 102, [6, 101]), ([72, 71], some 103, [102, 101]), ([71, 73], some 104, [101, 103]), ([74, 71], some 105, [104]), ([75], some 106, [7, 105]), ([76, 75], some 107, [106, 105]), ([75, 77], some 108, [105, 107]), ([78, 75], some 109, [108]), ([79], some 110, [8, 109]), ([79, 80], some 111, [109, 110]), ([81, 79], some 112, [111]), ([82], some 113, [1, 112]), ([83, 82], some 114, [113, 112]), ([84, 82], some 115, [114, 112]), ([85, 82, 82], some 116, [115, 112]), ([82], some 117, [112]), ([86, 87, 86, 82], some 118, [116, 117, 112]), ([82, 88], some 119, [112, 118]), ([89, 88], some 120, [119]), ([90], some 121, [1, 120]), ([91, 90], some 122, [121, 120]), ([92, 90], some 123, [122, 120]), ([90], some 124, [1, 120]), ([94, 90], some 125, [124, 120]), ([95, 90], some 126, [125, 120]), ([93, 96, 90, 90], some 127, [123, 126, 120]), ([90, 97], some 128, [120, 127]), ([98, 97, 0, 1, 2, 3, 4, 5, 6, 7, 8, 9, 10, 11, 12, 13, 14, 15, 16, 17, 18, 19, 20, 21, 22, 23, 24, 25, 26, 27, 28, 29, 30, 31, 32, 33, 34, 35, 36, 37, 38, 39, 40, 41, 42, 43, 44, 45, 46, 47, 48, 49, 50, 51, 52, 53, 54, 55, 56, 57, 58, 59, 60, 61, 62, 63, 64, 65, 66, 67, 68, 69, 70, 71, 72, 73, 74, 75, 76, 77, 78, 79, 80, 81, 82, 83, 84, 85, 86, 87, 88, 89, 90, 91, 92, 93, 94, 95, 96, 97, 98], some 0, [128])]
set_option maxRecDepth 100000 in
set_option maxHeartbeats 16000000 in
theorem ex_any (w : World) (hg : GoodP w) : Calls Tryd.prog 13 #[] w fun e w' => e = .returned (.bool true) ∧ Below w.heap.size w w' := by
  have HG := Lib.hid hg
  clear hg
  go_enter Tryd.func13, Tryd.ntmps13
  go_wp2_with fail
  refine (example_any w).mono ?_
  rintro e w1 ⟨v, a, b, c, rfl, l1, b1⟩
  obtain ⟨g, f, n, rfl⟩ := ex_shape l1
  have L1 := Lib.hid l1
  clear l1
  have B1 : Hid (Below w.heap.size w w1) := b1
  have GP1 := Lib.hid (HG.out.below b1)
  clear b1
  have S := Lib.hid (kgrp_any (.slice (some ⟨g, f, none⟩) 3 n) (exT a b c) (by show 3 ≤ _; omega) (ex_calls a b c) w1 GP1.out L1.out)
  rw [ex_grp] at S
  go_wp2_with fail
  refine S.out.mono ?_
  rintro e w2 ⟨u, rfl, lg, b2⟩
  obtain ⟨gg, go, gn, rfl⟩ := ll_shape lg
  have G2 := Lib.hid lg
  clear lg
  have B2 : Hid (Below w.heap.size w w2) := B1.out.trans (b2.mono B1.out.size)
  have L2 := Lib.hid (L1.out.below b2)
  have GP2 := Lib.hid (GP1.out.below b2)
  clear b2 B1 GP1 L1
  clear S
  have S := Lib.hid (ktck_any (.slice (some ⟨g, f, none⟩) 3 n) (exT a b c) (by show 3 ≤ _; omega) 3 1 1 w2 L2.out)
  rw [ex_ok] at S
  go_wp2_with fail
  refine S.out.mono ?_
  rintro e w3 ⟨rfl, b3⟩
  have B3 : Hid (Below w.heap.size w w3) := B2.out.trans (b3.mono B2.out.size)
  have L3 := Lib.hid (L2.out.below b3)
  have G3 := Lib.hid (G2.out.below b3)
  have GP3 := Lib.hid (GP2.out.below b3)
  clear b3 B2 GP2 L2 G2
  clear S
  have S := Lib.hid (ktck_any (.slice (some ⟨g, f, none⟩) 3 n) (exT a b c) (by show 3 ≤ _; omega) 2 1 1 w3 L3.out)
  rw [ex_bad] at S
  go_wp2_with fail
  refine S.out.mono ?_
  rintro e w4 ⟨rfl, b4⟩
  have B4 : Hid (Below w.heap.size w w4) := B3.out.trans (b4.mono B3.out.size)
  have L4 := Lib.hid (L3.out.below b4)
  have G4 := Lib.hid (G3.out.below b4)
  have GP4 := Lib.hid (GP3.out.below b4)
  clear b4 B3 GP3 L3 G3
  clear S
  have S := Lib.hid (kfind_any (.slice (some ⟨g, f, none⟩) 3 n) (exT a b c) (by show 3 ≤ _; omega) [98] ⟨#[98]⟩ rfl w4 L4.out)
  rw [ex_find, find_val.1, find_val.2] at S
  go_wp2_with fail
  refine S.out.mono ?_
  rintro e w5 ⟨rfl, b5⟩
  have B5 : Hid (Below w.heap.size w w5) := B4.out.trans (b5.mono B4.out.size)
  have L5 := Lib.hid (L4.out.below b5)
  have G5 := Lib.hid (G4.out.below b5)
  have GP5 := Lib.hid (GP4.out.below b5)
  clear b5 B4 GP4 L4 G4
  clear S
  go_wp2_with fail
  refine startT (S := fun W => Below w5.heap.size w5 W) skEx 100 (by kernel_rfl) (by kernel_rfl) (by kernel_rfl) (by kernel_rfl) (bitsL 100 0) (by kernel_rfl) ((Below.refl _ _).drew) (fun hHeld => ?_)
  obtain ⟨w6, hw6⟩ : ∃ W, w5.drew = W := ⟨_, rfl⟩
  rw [hw6] at hHeld ⊢
  have yw6 := hHeld
  clear hw6
  refine behindT (w := w6) yw6 ?_
  have L6 := Lib.hid (L5.out.below yw6)
  have GP6 := Lib.hid (GP5.out.below yw6)
  have B6 : Hid (Below w.heap.size w w6) := B5.out.trans (yw6.mono B5.out.size)
  have G6 := Lib.hid (G5.out.below yw6)
  clear L5 GP5 B5 G5
  clear hHeld yw6
  have hHeld := Below.refl w6.heap.size w6
  obtain ⟨A, m, hc, hl⟩ := ll_row G6.out (i := 0) (m := 2) rfl rfl
  have I := Lib.hid hl
  clear hl
  refine takeT (i := 0) (v := ?_) (a' := ?_) 30 (bitsL 100 1) (by kernel_rfl) rfl rfl (by kernel_rfl) (fun _ _ _ h => h) (Or.inl ⟨by rfl, ?_⟩) (by assumption) ?_ ?_
  rotate_left 2
  · intro W hW
    go_simp
    try with_reducible rfl
  · simp only [Act.put, List.setIfInBounds_toArray, List.set_cons_zero, List.set_cons_succ]
    try with_reducible rfl
  refine takeT (i := 1) (v := ?_) (a' := ?_) 31 (bitsL 100 3) (by kernel_rfl) rfl rfl (by kernel_rfl) (fun _ _ _ h => h) (Or.inl ⟨by rfl, ?_⟩) (by assumption) ?_ ?_
  rotate_left 2
  · intro W hW
    go_simp
    try with_reducible rfl
  · simp only [Act.put, List.setIfInBounds_toArray, List.set_cons_zero, List.set_cons_succ]
    try with_reducible rfl
  refine takeT (i := 2) (v := ?_) (a' := ?_) 32 (bitsL 100 7) (by kernel_rfl) rfl rfl (by kernel_rfl) (fun _ _ _ h => h) (Or.inl ⟨by rfl, ?_⟩) (by assumption) ?_ ?_
  rotate_left 2
  · intro W hW
    have q0 : W.cell? ⟨gg, go, none⟩ = some (.slice A 2 m) := hc W hW
    go_simp
    try with_reducible rfl
  · simp only [Act.put, List.setIfInBounds_toArray, List.set_cons_zero, List.set_cons_succ]
    try with_reducible rfl
  clear hc
  obtain ⟨w7, hw7⟩ : ∃ W, w6.alloc (.cells #[.int .i64 0, .int .i64 2] 3 (0, 0)) = W := ⟨_, rfl⟩
  have yw7 : Below w6.heap.size w6 w7 := by rw [← hw7]; exact (Below.refl _ _).alloc (Nat.le_refl _) _
  have K7 : Hid (LstI w7 (.slice (some ⟨w6.heap.size, 0, none⟩) 2 2) [0, 2]) := by show LstI _ _ _; rw [← hw7]; exact lsti_lit w6 _ [0, 2] rfl 2 rfl
  have I2 := Lib.hid (I.out.below yw7)
  clear I
  refine makeT (i := 3) (v := (.slice (some ⟨w6.heap.size, 0, none⟩) 2 2)) (w' := w7) (a' := ?_) 33 (bitsL 100 15) (by kernel_rfl) (by kernel_rfl) rfl rfl (by rfl) (by rw [← hw7]; kernel_rfl) yw7 ?_ ?_
  rotate_left 1
  · simp only [Act.put, List.setIfInBounds_toArray, List.set_cons_zero, List.set_cons_succ]
    try with_reducible rfl
  clear hw7
  refine behindT (w := w7) yw7 ?_
  have L7 := Lib.hid (L6.out.below yw7)
  have GP7 := Lib.hid (GP6.out.below yw7)
  have B7 : Hid (Below w.heap.size w w7) := B6.out.trans (yw7.mono B6.out.size)
  have G7 := Lib.hid (G6.out.below yw7)
  clear L6 GP6 B6 G6
  clear hHeld yw7
  have hHeld := Below.refl w7.heap.size w7
  have C0 := Lib.hid (Calls.below (lsame_any (.slice A 2 m) (.slice (some ⟨w6.heap.size, 0, none⟩) 2 2) [0, 2] [0, 2] (by decide) w7 I2.out K7.out))
  rw [show decide (([0, 2] : List Int) = [0, 2]) = true from decide_eq_true rfl] at C0
  refine callT (i := 4) (R := fun u W' => u = .bool true ∧ Below w7.heap.size w7 W') 34 (bitsL 100 31) (by kernel_rfl) (by kernel_rfl) rfl rfl (by rfl) (by kernel_rfl) (C0.out.mono fun e w' h => ⟨_, h.1, rfl, h.2⟩) ?_
  rintro u w8 ⟨rfl, yw8⟩
  refine ⟨yw8, ?_⟩
  clear C0
  clear I2 K7
  refine actT (a' := ?_) ?_ ?_
  rotate_left 1
  · simp only [Act.put, List.setIfInBounds_toArray, List.set_cons_zero, List.set_cons_succ]
    try with_reducible rfl
  refine behindT (w := w8) yw8 ?_
  have L8 := Lib.hid (L7.out.below yw8)
  have GP8 := Lib.hid (GP7.out.below yw8)
  have B8 : Hid (Below w.heap.size w w8) := B7.out.trans (yw8.mono B7.out.size)
  have G8 := Lib.hid (G7.out.below yw8)
  clear L7 GP7 B7 G7
  clear hHeld yw8
  have hHeld := Below.refl w8.heap.size w8
  obtain ⟨A, m, hc, hl⟩ := ll_row G8.out (i := 1) (m := 1) rfl rfl
  have I := Lib.hid hl
  clear hl
  refine takeT (i := 5) (v := ?_) (a' := ?_) 35 (bitsL 100 63) (by kernel_rfl) rfl rfl (by kernel_rfl) (fun _ _ _ h => h) (Or.inl ⟨by rfl, ?_⟩) (by assumption) ?_ ?_
  rotate_left 2
  · intro W hW
    go_simp
    try with_reducible rfl
  · simp only [Act.put, List.setIfInBounds_toArray, List.set_cons_zero, List.set_cons_succ]
    try with_reducible rfl
  refine takeT (i := 6) (v := ?_) (a' := ?_) 36 (bitsL 100 127) (by kernel_rfl) rfl rfl (by kernel_rfl) (fun _ _ _ h => h) (Or.inl ⟨by rfl, ?_⟩) (by assumption) ?_ ?_
  rotate_left 2
  · intro W hW
    go_simp
    try with_reducible rfl
  · simp only [Act.put, List.setIfInBounds_toArray, List.set_cons_zero, List.set_cons_succ]
    try with_reducible rfl
  refine takeT (i := 7) (v := ?_) (a' := ?_) 37 (bitsL 100 255) (by kernel_rfl) rfl rfl (by kernel_rfl) (fun _ _ _ h => h) (Or.inl ⟨by rfl, ?_⟩) (by assumption) ?_ ?_
  rotate_left 2
  · intro W hW
    go_simp
    try with_reducible rfl
  · simp only [Act.put, List.setIfInBounds_toArray, List.set_cons_zero, List.set_cons_succ]
    try with_reducible rfl
  refine takeT (i := 8) (v := ?_) (a' := ?_) 38 (bitsL 100 511) (by kernel_rfl) rfl rfl (by kernel_rfl) (fun _ _ _ h => h) (Or.inl ⟨by rfl, ?_⟩) (by assumption) ?_ ?_
  rotate_left 2
  · intro W hW
    have q0 : W.cell? ⟨gg, go + 1, none⟩ = some (.slice A 1 m) := hc W hW
    go_simp
    try with_reducible rfl
  · simp only [Act.put, List.setIfInBounds_toArray, List.set_cons_zero, List.set_cons_succ]
    try with_reducible rfl
  clear hc
  obtain ⟨w9, hw9⟩ : ∃ W, w8.alloc (.cells #[.int .i64 1] 3 (0, 0)) = W := ⟨_, rfl⟩
  have yw9 : Below w8.heap.size w8 w9 := by rw [← hw9]; exact (Below.refl _ _).alloc (Nat.le_refl _) _
  have K9 : Hid (LstI w9 (.slice (some ⟨w8.heap.size, 0, none⟩) 1 1) [1]) := by show LstI _ _ _; rw [← hw9]; exact lsti_lit w8 _ [1] rfl 1 rfl
  have I2 := Lib.hid (I.out.below yw9)
  clear I
  refine makeT (i := 9) (v := (.slice (some ⟨w8.heap.size, 0, none⟩) 1 1)) (w' := w9) (a' := ?_) 39 (bitsL 100 1023) (by kernel_rfl) (by kernel_rfl) rfl rfl (by rfl) (by rw [← hw9]; kernel_rfl) yw9 ?_ ?_
  rotate_left 1
  · simp only [Act.put, List.setIfInBounds_toArray, List.set_cons_zero, List.set_cons_succ]
    try with_reducible rfl
  clear hw9
  refine behindT (w := w9) yw9 ?_
  have L9 := Lib.hid (L8.out.below yw9)
  have GP9 := Lib.hid (GP8.out.below yw9)
  have B9 : Hid (Below w.heap.size w w9) := B8.out.trans (yw9.mono B8.out.size)
  have G9 := Lib.hid (G8.out.below yw9)
  clear L8 GP8 B8 G8
  clear hHeld yw9
  have hHeld := Below.refl w9.heap.size w9
  have C0 := Lib.hid (Calls.below (lsame_any (.slice A 1 m) (.slice (some ⟨w8.heap.size, 0, none⟩) 1 1) [1] [1] (by decide) w9 I2.out K9.out))
  rw [show decide (([1] : List Int) = [1]) = true from decide_eq_true rfl] at C0
  refine callT (i := 10) (R := fun u W' => u = .bool true ∧ Below w9.heap.size w9 W') 40 (bitsL 100 2047) (by kernel_rfl) (by kernel_rfl) rfl rfl (by rfl) (by kernel_rfl) (C0.out.mono fun e w' h => ⟨_, h.1, rfl, h.2⟩) ?_
  rintro u w10 ⟨rfl, yw10⟩
  refine ⟨yw10, ?_⟩
  clear C0
  clear I2 K9
  refine actT (a' := ?_) ?_ ?_
  rotate_left 1
  · simp only [Act.put, List.setIfInBounds_toArray, List.set_cons_zero, List.set_cons_succ]
    try with_reducible rfl
  refine behindT (w := w10) yw10 ?_
  have L10 := Lib.hid (L9.out.below yw10)
  have GP10 := Lib.hid (GP9.out.below yw10)
  have B10 : Hid (Below w.heap.size w w10) := B9.out.trans (yw10.mono B9.out.size)
  have G10 := Lib.hid (G9.out.below yw10)
  clear L9 GP9 B9 G9
  clear hHeld yw10
  have hHeld := Below.refl w10.heap.size w10
  clear G10
  refine takeT (i := 11) (v := ?_) (a' := ?_) 41 (bitsL 100 4095) (by kernel_rfl) rfl rfl (by kernel_rfl) (fun _ _ _ h => h) (Or.inl ⟨by rfl, ?_⟩) (by assumption) ?_ ?_
  rotate_left 2
  · intro W hW
    go_simp
    try with_reducible rfl
  · simp only [Act.put, List.setIfInBounds_toArray, List.set_cons_zero, List.set_cons_succ]
    try with_reducible rfl
  refine takeT (i := 12) (v := ?_) (a' := ?_) 42 (bitsL 100 8191) (by kernel_rfl) rfl rfl (by kernel_rfl) (fun _ _ _ h => h) (Or.inl ⟨by rfl, ?_⟩) (by assumption) ?_ ?_
  rotate_left 2
  · intro W hW
    go_simp
    try with_reducible rfl
  · simp only [Act.put, List.setIfInBounds_toArray, List.set_cons_zero, List.set_cons_succ]
    try with_reducible rfl
  refine takeT (i := 13) (v := ?_) (a' := ?_) 43 (bitsL 100 16383) (by kernel_rfl) rfl rfl (by kernel_rfl) (fun _ _ _ h => h) (Or.inl ⟨by rfl, ?_⟩) (by assumption) ?_ ?_
  rotate_left 2
  · intro W hW
    go_simp
    try with_reducible rfl
  · simp only [Act.put, List.setIfInBounds_toArray, List.set_cons_zero, List.set_cons_succ]
    try with_reducible rfl
  refine twoT (i := 14) (j := 15) 44 45 (bitsL 100 65535) (by kernel_rfl) (by kernel_rfl) (by kernel_rfl) (by kernel_rfl) (by decide) rfl rfl (by rfl) (by rfl) (fun _ => by rfl) (fun _ => by rfl) (by decide)
    (fun W u q => ∃ A m b, u = .slice A 3 m ∧ q = .slice (some ⟨b, 0, none⟩) 3 3 ∧ LstI W u [0, 1, 2] ∧ LstI W q [0, 1, 2])
    (fun W u => ∃ A m, u = .slice A 3 m ∧ LstI W u [0, 1, 2]) (fun W q => ∃ b, q = .slice (some ⟨b, 0, none⟩) 3 3 ∧ LstI W q [0, 1, 2]) ?_ ?_ ?_ ?_ ?_
  · intro K hK
    have C0 := Lib.hid (kbtw_any (.slice (some ⟨g, f, none⟩) 3 n) (exT a b c) (by show 3 ≤ _; omega) 0 2 w10 (L10.out.below (Below.refl w10.heap.size w10)))
    refine operC (R := fun u W' => (∃ A m, u = .slice A 3 m ∧ LstI W' u [0, 1, 2]) ∧ Below w10.heap.size w10 W') 44 rfl (by kernel_rfl) (C0.out.mono ?_) ?_
    · rintro e W1 ⟨u, rfl, o, b⟩
      rw [ex_b02] at o
      have I := OwnI.lst o
      obtain ⟨A, m, rfl, -, -, -⟩ := _root_.id I
      simp only [List.length_cons, List.length_nil] at I ⊢
      exact ⟨_, rfl, ⟨A, m, rfl, I⟩, b⟩
    · rintro u W1 ⟨⟨A, m, rfl, I⟩, b⟩
      exact hK.out _ _ _ rfl b ⟨A, m, rfl, I⟩
  · intro u W hW hR K hK
    obtain ⟨A, m, rfl, I⟩ := hR
    refine operV (v := .slice (some ⟨W.heap.size, 0, none⟩) 3 3) (w' := W.alloc (.cells #[.int .i64 0, .int .i64 1, .int .i64 2] 3 (0, 0))) 45 rfl (by kernel_rfl) ?_
    exact hK.out _ _ _ rfl (hW.alloc hW.size _) ⟨A, m, _, rfl, rfl, I.below ((Below.refl _ _).alloc (Nat.le_refl _) _), lsti_lit _ #[.int .i64 0, .int .i64 1, .int .i64 2] [0, 1, 2] rfl 3 rfl⟩
  · intro K hK
    refine operV (v := .slice (some ⟨w10.heap.size, 0, none⟩) 3 3) (w' := w10.alloc (.cells #[.int .i64 0, .int .i64 1, .int .i64 2] 3 (0, 0))) 45 rfl (by kernel_rfl) ?_
    exact hK.out _ _ _ rfl ((Below.refl _ _).alloc (Nat.le_refl _) _) ⟨_, rfl, lsti_lit _ #[.int .i64 0, .int .i64 1, .int .i64 2] [0, 1, 2] rfl 3 rfl⟩
  · intro q W hW hR K hK
    obtain ⟨b0, rfl, J⟩ := hR
    have C0 := Lib.hid (kbtw_any (.slice (some ⟨g, f, none⟩) 3 n) (exT a b c) (by show 3 ≤ _; omega) 0 2 W (L10.out.below hW))
    refine operC (R := fun u W' => (∃ A m, u = .slice A 3 m ∧ LstI W' u [0, 1, 2]) ∧ Below W.heap.size W W') 44 rfl (by kernel_rfl) (C0.out.mono ?_) ?_
    · rintro e W1 ⟨u, rfl, o, b⟩
      rw [ex_b02] at o
      have I := OwnI.lst o
      obtain ⟨A, m, rfl, -, -, -⟩ := _root_.id I
      simp only [List.length_cons, List.length_nil] at I ⊢
      exact ⟨_, rfl, ⟨A, m, rfl, I⟩, b⟩
    · rintro u W1 ⟨⟨A, m, rfl, I⟩, b⟩
      exact hK.out _ _ _ rfl (hW.trans (b.mono hW.size)) ⟨A, m, _, rfl, rfl, I, J.below b⟩
  intro u q w11 yw11 hR
  obtain ⟨A, m, b0, rfl, rfl, hI, hJ⟩ := hR
  have I2 := Lib.hid hI
  have K11 := Lib.hid hJ
  clear hI hJ
  refine actT (a' := ?_) ?_ ?_
  rotate_left 1
  · simp only [Act.put, List.setIfInBounds_toArray, List.set_cons_zero, List.set_cons_succ]
    try with_reducible rfl
  refine behindT (w := w11) yw11 ?_
  have L11 := Lib.hid (L10.out.below yw11)
  have GP11 := Lib.hid (GP10.out.below yw11)
  have B11 : Hid (Below w.heap.size w w11) := B10.out.trans (yw11.mono B10.out.size)
  clear L10 GP10 B10
  clear hHeld yw11
  have hHeld := Below.refl w11.heap.size w11
  have C0 := Lib.hid (Calls.below (lsame_any (.slice A 3 m) (.slice (some ⟨b0, 0, none⟩) 3 3) [0, 1, 2] [0, 1, 2] (by decide) w11 I2.out K11.out))
  rw [show decide (([0, 1, 2] : List Int) = [0, 1, 2]) = true from decide_eq_true rfl] at C0
  refine callT (i := 16) (R := fun u W' => u = .bool true ∧ Below w11.heap.size w11 W') 46 (bitsL 100 131071) (by kernel_rfl) (by kernel_rfl) rfl rfl (by rfl) (by kernel_rfl) (C0.out.mono fun e w' h => ⟨_, h.1, rfl, h.2⟩) ?_
  rintro u w12 ⟨rfl, yw12⟩
  refine ⟨yw12, ?_⟩
  clear C0
  clear I2 K11
  refine actT (a' := ?_) ?_ ?_
  rotate_left 1
  · simp only [Act.put, List.setIfInBounds_toArray, List.set_cons_zero, List.set_cons_succ]
    try with_reducible rfl
  refine behindT (w := w12) yw12 ?_
  have L12 := Lib.hid (L11.out.below yw12)
  have GP12 := Lib.hid (GP11.out.below yw12)
  have B12 : Hid (Below w.heap.size w w12) := B11.out.trans (yw12.mono B11.out.size)
  clear L11 GP11 B11
  clear hHeld yw12
  have hHeld := Below.refl w12.heap.size w12
  refine takeT (i := 17) (v := ?_) (a' := ?_) 47 (bitsL 100 262143) (by kernel_rfl) rfl rfl (by kernel_rfl) (fun _ _ _ h => h) (Or.inl ⟨by rfl, ?_⟩) (by assumption) ?_ ?_
  rotate_left 2
  · intro W hW
    go_simp
    try with_reducible rfl
  · simp only [Act.put, List.setIfInBounds_toArray, List.set_cons_zero, List.set_cons_succ]
    try with_reducible rfl
  refine takeT (i := 18) (v := ?_) (a' := ?_) 48 (bitsL 100 524287) (by kernel_rfl) rfl rfl (by kernel_rfl) (fun _ _ _ h => h) (Or.inl ⟨by rfl, ?_⟩) (by assumption) ?_ ?_
  rotate_left 2
  · intro W hW
    go_simp
    try with_reducible rfl
  · simp only [Act.put, List.setIfInBounds_toArray, List.set_cons_zero, List.set_cons_succ]
    try with_reducible rfl
  refine takeT (i := 19) (v := ?_) (a' := ?_) 49 (bitsL 100 1048575) (by kernel_rfl) rfl rfl (by kernel_rfl) (fun _ _ _ h => h) (Or.inl ⟨by rfl, ?_⟩) (by assumption) ?_ ?_
  rotate_left 2
  · intro W hW
    go_simp
    try with_reducible rfl
  · simp only [Act.put, List.setIfInBounds_toArray, List.set_cons_zero, List.set_cons_succ]
    try with_reducible rfl
  refine twoT (i := 20) (j := 21) 50 51 (bitsL 100 4194303) (by kernel_rfl) (by kernel_rfl) (by kernel_rfl) (by kernel_rfl) (by decide) rfl rfl (by rfl) (by rfl) (fun _ => by rfl) (fun _ => by rfl) (by decide)
    (fun W u q => ∃ A m b, u = .slice A 2 m ∧ q = .slice (some ⟨b, 0, none⟩) 2 2 ∧ LstI W u [0, 2] ∧ LstI W q [0, 2])
    (fun W u => ∃ A m, u = .slice A 2 m ∧ LstI W u [0, 2]) (fun W q => ∃ b, q = .slice (some ⟨b, 0, none⟩) 2 2 ∧ LstI W q [0, 2]) ?_ ?_ ?_ ?_ ?_
  · intro K hK
    have C0 := Lib.hid (kbtw_any (.slice (some ⟨g, f, none⟩) 3 n) (exT a b c) (by show 3 ≤ _; omega) 1 2 w12 (L12.out.below (Below.refl w12.heap.size w12)))
    refine operC (R := fun u W' => (∃ A m, u = .slice A 2 m ∧ LstI W' u [0, 2]) ∧ Below w12.heap.size w12 W') 50 rfl (by kernel_rfl) (C0.out.mono ?_) ?_
    · rintro e W1 ⟨u, rfl, o, b⟩
      rw [ex_b12] at o
      have I := OwnI.lst o
      obtain ⟨A, m, rfl, -, -, -⟩ := _root_.id I
      simp only [List.length_cons, List.length_nil] at I ⊢
      exact ⟨_, rfl, ⟨A, m, rfl, I⟩, b⟩
    · rintro u W1 ⟨⟨A, m, rfl, I⟩, b⟩
      exact hK.out _ _ _ rfl b ⟨A, m, rfl, I⟩
  · intro u W hW hR K hK
    obtain ⟨A, m, rfl, I⟩ := hR
    refine operV (v := .slice (some ⟨W.heap.size, 0, none⟩) 2 2) (w' := W.alloc (.cells #[.int .i64 0, .int .i64 2] 3 (0, 0))) 51 rfl (by kernel_rfl) ?_
    exact hK.out _ _ _ rfl (hW.alloc hW.size _) ⟨A, m, _, rfl, rfl, I.below ((Below.refl _ _).alloc (Nat.le_refl _) _), lsti_lit _ #[.int .i64 0, .int .i64 2] [0, 2] rfl 2 rfl⟩
  · intro K hK
    refine operV (v := .slice (some ⟨w12.heap.size, 0, none⟩) 2 2) (w' := w12.alloc (.cells #[.int .i64 0, .int .i64 2] 3 (0, 0))) 51 rfl (by kernel_rfl) ?_
    exact hK.out _ _ _ rfl ((Below.refl _ _).alloc (Nat.le_refl _) _) ⟨_, rfl, lsti_lit _ #[.int .i64 0, .int .i64 2] [0, 2] rfl 2 rfl⟩
  · intro q W hW hR K hK
    obtain ⟨b0, rfl, J⟩ := hR
    have C0 := Lib.hid (kbtw_any (.slice (some ⟨g, f, none⟩) 3 n) (exT a b c) (by show 3 ≤ _; omega) 1 2 W (L12.out.below hW))
    refine operC (R := fun u W' => (∃ A m, u = .slice A 2 m ∧ LstI W' u [0, 2]) ∧ Below W.heap.size W W') 50 rfl (by kernel_rfl) (C0.out.mono ?_) ?_
    · rintro e W1 ⟨u, rfl, o, b⟩
      rw [ex_b12] at o
      have I := OwnI.lst o
      obtain ⟨A, m, rfl, -, -, -⟩ := _root_.id I
      simp only [List.length_cons, List.length_nil] at I ⊢
      exact ⟨_, rfl, ⟨A, m, rfl, I⟩, b⟩
    · rintro u W1 ⟨⟨A, m, rfl, I⟩, b⟩
      exact hK.out _ _ _ rfl (hW.trans (b.mono hW.size)) ⟨A, m, _, rfl, rfl, I, J.below b⟩
  intro u q w13 yw13 hR
  obtain ⟨A, m, b0, rfl, rfl, hI, hJ⟩ := hR
  have I2 := Lib.hid hI
  have K13 := Lib.hid hJ
  clear hI hJ
  refine actT (a' := ?_) ?_ ?_
  rotate_left 1
  · simp only [Act.put, List.setIfInBounds_toArray, List.set_cons_zero, List.set_cons_succ]
    try with_reducible rfl
  refine behindT (w := w13) yw13 ?_
  have L13 := Lib.hid (L12.out.below yw13)
  have GP13 := Lib.hid (GP12.out.below yw13)
  have B13 : Hid (Below w.heap.size w w13) := B12.out.trans (yw13.mono B12.out.size)
  clear L12 GP12 B12
  clear hHeld yw13
  have hHeld := Below.refl w13.heap.size w13
  have C0 := Lib.hid (Calls.below (lsame_any (.slice A 2 m) (.slice (some ⟨b0, 0, none⟩) 2 2) [0, 2] [0, 2] (by decide) w13 I2.out K13.out))
  rw [show decide (([0, 2] : List Int) = [0, 2]) = true from decide_eq_true rfl] at C0
  refine callT (i := 22) (R := fun u W' => u = .bool true ∧ Below w13.heap.size w13 W') 52 (bitsL 100 8388607) (by kernel_rfl) (by kernel_rfl) rfl rfl (by rfl) (by kernel_rfl) (C0.out.mono fun e w' h => ⟨_, h.1, rfl, h.2⟩) ?_
  rintro u w14 ⟨rfl, yw14⟩
  refine ⟨yw14, ?_⟩
  clear C0
  clear I2 K13
  refine actT (a' := ?_) ?_ ?_
  rotate_left 1
  · simp only [Act.put, List.setIfInBounds_toArray, List.set_cons_zero, List.set_cons_succ]
    try with_reducible rfl
  refine behindT (w := w14) yw14 ?_
  have L14 := Lib.hid (L13.out.below yw14)
  have GP14 := Lib.hid (GP13.out.below yw14)
  have B14 : Hid (Below w.heap.size w w14) := B13.out.trans (yw14.mono B13.out.size)
  clear L13 GP13 B13
  clear hHeld yw14
  have hHeld := Below.refl w14.heap.size w14
  refine takeT (i := 23) (v := ?_) (a' := ?_) 53 (bitsL 100 16777215) (by kernel_rfl) rfl rfl (by kernel_rfl) (fun _ _ _ h => h) (Or.inl ⟨by rfl, ?_⟩) (by assumption) ?_ ?_
  rotate_left 2
  · intro W hW
    go_simp
    try with_reducible rfl
  · simp only [Act.put, List.setIfInBounds_toArray, List.set_cons_zero, List.set_cons_succ]
    try with_reducible rfl
  refine takeT (i := 24) (v := ?_) (a' := ?_) 54 (bitsL 100 33554431) (by kernel_rfl) rfl rfl (by kernel_rfl) (fun _ _ _ h => h) (Or.inl ⟨by rfl, ?_⟩) (by assumption) ?_ ?_
  rotate_left 2
  · intro W hW
    go_simp
    try with_reducible rfl
  · simp only [Act.put, List.setIfInBounds_toArray, List.set_cons_zero, List.set_cons_succ]
    try with_reducible rfl
  refine takeT (i := 25) (v := ?_) (a' := ?_) 55 (bitsL 100 67108863) (by kernel_rfl) rfl rfl (by kernel_rfl) (fun _ _ _ h => h) (Or.inl ⟨by rfl, ?_⟩) (by assumption) ?_ ?_
  rotate_left 2
  · intro W hW
    go_simp
    try with_reducible rfl
  · simp only [Act.put, List.setIfInBounds_toArray, List.set_cons_zero, List.set_cons_succ]
    try with_reducible rfl
  have C0 := Lib.hid (kbtw_any (.slice (some ⟨g, f, none⟩) 3 n) (exT a b c) (by show 3 ≤ _; omega) 0 1 w14 (L14.out.below (Below.refl w14.heap.size w14)))
  rw [ex_b01] at C0
  refine callT (i := 26) (R := fun u W' => (∃ A m, u = .slice A 0 m) ∧ Below w14.heap.size w14 W') 56 (bitsL 100 134217727) (by kernel_rfl) (by kernel_rfl) rfl rfl (by rfl) (by kernel_rfl) (C0.out.mono fun e w' h => (by obtain ⟨u, h1, h2, h3⟩ := h; obtain ⟨A, m, hu⟩ := own_shape' h2; exact ⟨u, h1, ⟨A, m, hu⟩, h3⟩)) ?_
  rintro u w15 ⟨⟨A, m, rfl⟩, yw15⟩
  refine ⟨yw15, ?_⟩
  clear C0
  refine actT (a' := ?_) ?_ ?_
  rotate_left 1
  · simp only [Act.put, List.setIfInBounds_toArray, List.set_cons_zero, List.set_cons_succ]
    try with_reducible rfl
  refine behindT (w := w15) yw15 ?_
  have L15 := Lib.hid (L14.out.below yw15)
  have GP15 := Lib.hid (GP14.out.below yw15)
  have B15 : Hid (Below w.heap.size w w15) := B14.out.trans (yw15.mono B14.out.size)
  clear L14 GP14 B14
  clear hHeld yw15
  have hHeld := Below.refl w15.heap.size w15
  refine takeT (i := 27) (v := ?_) (a' := ?_) 57 (bitsL 100 268435455) (by kernel_rfl) rfl rfl (by kernel_rfl) (fun _ _ _ h => h) (Or.inl ⟨by rfl, ?_⟩) (by assumption) ?_ ?_
  rotate_left 2
  · intro W hW
    go_simp
    try with_reducible rfl
  · simp only [Act.put, List.setIfInBounds_toArray, List.set_cons_zero, List.set_cons_succ]
    try with_reducible rfl
  refine takeT (i := 28) (v := ?_) (a' := ?_) 58 (bitsL 100 536870911) (by kernel_rfl) rfl rfl (by kernel_rfl) (fun _ _ _ h => h) (Or.inl ⟨by rfl, ?_⟩) (by assumption) ?_ ?_
  rotate_left 2
  · intro W hW
    go_simp
    try with_reducible rfl
  · simp only [Act.put, List.setIfInBounds_toArray, List.set_cons_zero, List.set_cons_succ]
    try with_reducible rfl
  refine takeT (i := 29) (v := ?_) (a' := ?_) 59 (bitsL 100 1073741823) (by kernel_rfl) rfl rfl (by kernel_rfl) (fun _ _ _ h => h) (Or.inl ⟨by rfl, ?_⟩) (by assumption) ?_ ?_
  rotate_left 2
  · intro W hW
    go_simp
    try with_reducible rfl
  · simp only [Act.put, List.setIfInBounds_toArray, List.set_cons_zero, List.set_cons_succ]
    try with_reducible rfl
  refine takeT (i := 30) (v := ?_) (a' := ?_) 60 (bitsL 100 2147483647) (by kernel_rfl) rfl rfl (by kernel_rfl) (fun _ _ _ h => h) (Or.inl ⟨by rfl, ?_⟩) (by assumption) ?_ ?_
  rotate_left 2
  · intro W hW
    go_simp
    try with_reducible rfl
  · simp only [Act.put, List.setIfInBounds_toArray, List.set_cons_zero, List.set_cons_succ]
    try with_reducible rfl
  refine takeT (i := 31) (v := ?_) (a' := ?_) 61 (bitsL 100 4294967295) (by kernel_rfl) rfl rfl (by kernel_rfl) (fun _ _ _ h => h) (Or.inl ⟨by rfl, ?_⟩) (by assumption) ?_ ?_
  rotate_left 2
  · intro W hW
    go_simp
    try with_reducible rfl
  · simp only [Act.put, List.setIfInBounds_toArray, List.set_cons_zero, List.set_cons_succ]
    try with_reducible rfl
  refine takeT (i := 32) (v := ?_) (a' := ?_) 62 (bitsL 100 8589934591) (by kernel_rfl) rfl rfl (by kernel_rfl) (fun _ _ _ h => h) (Or.inl ⟨by rfl, ?_⟩) (by assumption) ?_ ?_
  rotate_left 2
  · intro W hW
    go_simp
    try with_reducible rfl
  · simp only [Act.put, List.setIfInBounds_toArray, List.set_cons_zero, List.set_cons_succ]
    try with_reducible rfl
  refine takeT (i := 33) (v := ?_) (a' := ?_) 63 (bitsL 100 17179869183) (by kernel_rfl) rfl rfl (by kernel_rfl) (fun _ _ _ h => h) (Or.inl ⟨by rfl, ?_⟩) (by assumption) ?_ ?_
  rotate_left 2
  · intro W hW
    obtain ⟨⟨r0, r1, r2, r3, r4⟩, ⟨s0, s1, s2, s3, s4⟩, t0, t1, t2, t3, t4⟩ := ex_cells (L15.out.below hW)
    go_simp
    try with_reducible rfl
  · simp only [Act.put, List.setIfInBounds_toArray, List.set_cons_zero, List.set_cons_succ]
    try with_reducible rfl
  refine takeT (i := 34) (v := ?_) (a' := ?_) 64 (bitsL 100 34359738367) (by kernel_rfl) rfl rfl (by kernel_rfl) (fun _ _ _ h => h) (Or.inl ⟨by rfl, ?_⟩) (by assumption) ?_ ?_
  rotate_left 2
  · intro W hW
    go_simp
    try with_reducible rfl
  · simp only [Act.put, List.setIfInBounds_toArray, List.set_cons_zero, List.set_cons_succ]
    try with_reducible rfl
  refine takeT (i := 35) (v := ?_) (a' := ?_) 65 (bitsL 100 68719476735) (by kernel_rfl) rfl rfl (by kernel_rfl) (fun _ _ _ h => h) (Or.inl ⟨by rfl, ?_⟩) (by assumption) ?_ ?_
  rotate_left 2
  · intro W hW
    go_simp
    try with_reducible rfl
  · simp only [Act.put, List.setIfInBounds_toArray, List.set_cons_zero, List.set_cons_succ]
    try with_reducible rfl
  refine takeT (i := 36) (v := ?_) (a' := ?_) 66 (bitsL 100 137438953471) (by kernel_rfl) rfl rfl (by kernel_rfl) (fun _ _ _ h => h) (Or.inl ⟨by rfl, ?_⟩) (by assumption) ?_ ?_
  rotate_left 2
  · intro W hW
    obtain ⟨⟨r0, r1, r2, r3, r4⟩, ⟨s0, s1, s2, s3, s4⟩, t0, t1, t2, t3, t4⟩ := ex_cells (L15.out.below hW)
    go_simp
    try with_reducible rfl
  · simp only [Act.put, List.setIfInBounds_toArray, List.set_cons_zero, List.set_cons_succ]
    try with_reducible rfl
  have C0 := Lib.hid (kover_any ⟨#[99]⟩ 0 0 false (vA c 3) exC ⟨#[97]⟩ 0 0 false (vA a 3) exA (by decide) (by decide) w15 (ex_lists L15.out).2.2 (ex_lists L15.out).1)
  rw [ex_ca] at C0
  refine callT (i := 37) (R := fun u W' => u = .bool true ∧ Below w15.heap.size w15 W') 67 (bitsL 100 274877906943) (by kernel_rfl) (by kernel_rfl) rfl rfl (by rfl) (by kernel_rfl) (C0.out.mono fun e w' h => ⟨_, h.1, rfl, h.2⟩) ?_
  rintro u w16 ⟨rfl, yw16⟩
  refine ⟨yw16, ?_⟩
  clear C0
  refine actT (a' := ?_) ?_ ?_
  rotate_left 1
  · simp only [Act.put, List.setIfInBounds_toArray, List.set_cons_zero, List.set_cons_succ]
    try with_reducible rfl
  refine behindT (w := w16) yw16 ?_
  have L16 := Lib.hid (L15.out.below yw16)
  have GP16 := Lib.hid (GP15.out.below yw16)
  have B16 : Hid (Below w.heap.size w w16) := B15.out.trans (yw16.mono B15.out.size)
  clear L15 GP15 B15
  clear hHeld yw16
  have hHeld := Below.refl w16.heap.size w16
  refine takeT (i := 38) (v := ?_) (a' := ?_) 68 (bitsL 100 549755813887) (by kernel_rfl) rfl rfl (by kernel_rfl) (fun _ _ _ h => h) (Or.inl ⟨by rfl, ?_⟩) (by assumption) ?_ ?_
  rotate_left 2
  · intro W hW
    go_simp
    try with_reducible rfl
  · simp only [Act.put, List.setIfInBounds_toArray, List.set_cons_zero, List.set_cons_succ]
    try with_reducible rfl
  refine takeT (i := 39) (v := ?_) (a' := ?_) 69 (bitsL 100 1099511627775) (by kernel_rfl) rfl rfl (by kernel_rfl) (fun _ _ _ h => h) (Or.inl ⟨by rfl, ?_⟩) (by assumption) ?_ ?_
  rotate_left 2
  · intro W hW
    go_simp
    try with_reducible rfl
  · simp only [Act.put, List.setIfInBounds_toArray, List.set_cons_zero, List.set_cons_succ]
    try with_reducible rfl
  refine takeT (i := 40) (v := ?_) (a' := ?_) 70 (bitsL 100 2199023255551) (by kernel_rfl) rfl rfl (by kernel_rfl) (fun _ _ _ h => h) (Or.inl ⟨by rfl, ?_⟩) (by assumption) ?_ ?_
  rotate_left 2
  · intro W hW
    go_simp
    try with_reducible rfl
  · simp only [Act.put, List.setIfInBounds_toArray, List.set_cons_zero, List.set_cons_succ]
    try with_reducible rfl
  refine takeT (i := 41) (v := ?_) (a' := ?_) 71 (bitsL 100 4398046511103) (by kernel_rfl) rfl rfl (by kernel_rfl) (fun _ _ _ h => h) (Or.inl ⟨by rfl, ?_⟩) (by assumption) ?_ ?_
  rotate_left 2
  · intro W hW
    go_simp
    try with_reducible rfl
  · simp only [Act.put, List.setIfInBounds_toArray, List.set_cons_zero, List.set_cons_succ]
    try with_reducible rfl
  refine takeT (i := 42) (v := ?_) (a' := ?_) 72 (bitsL 100 8796093022207) (by kernel_rfl) rfl rfl (by kernel_rfl) (fun _ _ _ h => h) (Or.inl ⟨by rfl, ?_⟩) (by assumption) ?_ ?_
  rotate_left 2
  · intro W hW
    obtain ⟨⟨r0, r1, r2, r3, r4⟩, ⟨s0, s1, s2, s3, s4⟩, t0, t1, t2, t3, t4⟩ := ex_cells (L16.out.below hW)
    go_simp
    try with_reducible rfl
  · simp only [Act.put, List.setIfInBounds_toArray, List.set_cons_zero, List.set_cons_succ]
    try with_reducible rfl
  refine takeT (i := 43) (v := ?_) (a' := ?_) 73 (bitsL 100 17592186044415) (by kernel_rfl) rfl rfl (by kernel_rfl) (fun _ _ _ h => h) (Or.inl ⟨by rfl, ?_⟩) (by assumption) ?_ ?_
  rotate_left 2
  · intro W hW
    go_simp
    try with_reducible rfl
  · simp only [Act.put, List.setIfInBounds_toArray, List.set_cons_zero, List.set_cons_succ]
    try with_reducible rfl
  refine takeT (i := 44) (v := ?_) (a' := ?_) 74 (bitsL 100 35184372088831) (by kernel_rfl) rfl rfl (by kernel_rfl) (fun _ _ _ h => h) (Or.inl ⟨by rfl, ?_⟩) (by assumption) ?_ ?_
  rotate_left 2
  · intro W hW
    go_simp
    try with_reducible rfl
  · simp only [Act.put, List.setIfInBounds_toArray, List.set_cons_zero, List.set_cons_succ]
    try with_reducible rfl
  refine takeT (i := 45) (v := ?_) (a' := ?_) 75 (bitsL 100 70368744177663) (by kernel_rfl) rfl rfl (by kernel_rfl) (fun _ _ _ h => h) (Or.inl ⟨by rfl, ?_⟩) (by assumption) ?_ ?_
  rotate_left 2
  · intro W hW
    obtain ⟨⟨r0, r1, r2, r3, r4⟩, ⟨s0, s1, s2, s3, s4⟩, t0, t1, t2, t3, t4⟩ := ex_cells (L16.out.below hW)
    go_simp
    try with_reducible rfl
  · simp only [Act.put, List.setIfInBounds_toArray, List.set_cons_zero, List.set_cons_succ]
    try with_reducible rfl
  have C0 := Lib.hid (kover_any ⟨#[97]⟩ 0 0 false (vA a 3) exA ⟨#[99]⟩ 0 0 false (vA c 3) exC (by decide) (by decide) w16 (ex_lists L16.out).1 (ex_lists L16.out).2.2)
  rw [ex_ac] at C0
  refine callT (i := 46) (R := fun u W' => u = .bool false ∧ Below w16.heap.size w16 W') 76 (bitsL 100 140737488355327) (by kernel_rfl) (by kernel_rfl) rfl rfl (by rfl) (by kernel_rfl) (C0.out.mono fun e w' h => ⟨_, h.1, rfl, h.2⟩) ?_
  rintro u w17 ⟨rfl, yw17⟩
  refine ⟨yw17, ?_⟩
  clear C0
  refine actT (a' := ?_) ?_ ?_
  rotate_left 1
  · simp only [Act.put, List.setIfInBounds_toArray, List.set_cons_zero, List.set_cons_succ]
    try with_reducible rfl
  refine behindT (w := w17) yw17 ?_
  have L17 := Lib.hid (L16.out.below yw17)
  have GP17 := Lib.hid (GP16.out.below yw17)
  have B17 : Hid (Below w.heap.size w w17) := B16.out.trans (yw17.mono B16.out.size)
  clear L16 GP16 B16
  clear hHeld yw17
  have hHeld := Below.refl w17.heap.size w17
  refine takeT (i := 47) (v := ?_) (a' := ?_) 77 (bitsL 100 281474976710655) (by kernel_rfl) rfl rfl (by kernel_rfl) (fun _ _ _ h => h) (Or.inl ⟨by rfl, ?_⟩) (by assumption) ?_ ?_
  rotate_left 2
  · intro W hW
    go_simp
    try with_reducible rfl
  · simp only [Act.put, List.setIfInBounds_toArray, List.set_cons_zero, List.set_cons_succ]
    try with_reducible rfl
  refine takeT (i := 48) (v := ?_) (a' := ?_) 78 (bitsL 100 562949953421311) (by kernel_rfl) rfl rfl (by kernel_rfl) (fun _ _ _ h => h) (Or.inl ⟨by rfl, ?_⟩) (by assumption) ?_ ?_
  rotate_left 2
  · intro W hW
    go_simp
    try with_reducible rfl
  · simp only [Act.put, List.setIfInBounds_toArray, List.set_cons_zero, List.set_cons_succ]
    try with_reducible rfl
  refine takeT (i := 49) (v := ?_) (a' := ?_) 79 (bitsL 100 1125899906842623) (by kernel_rfl) rfl rfl (by kernel_rfl) (fun _ _ _ h => h) (Or.inl ⟨by rfl, ?_⟩) (by assumption) ?_ ?_
  rotate_left 2
  · intro W hW
    go_simp
    try with_reducible rfl
  · simp only [Act.put, List.setIfInBounds_toArray, List.set_cons_zero, List.set_cons_succ]
    try with_reducible rfl
  refine takeT (i := 50) (v := ?_) (a' := ?_) 80 (bitsL 100 2251799813685247) (by kernel_rfl) rfl rfl (by kernel_rfl) (fun _ _ _ h => h) (Or.inl ⟨by rfl, ?_⟩) (by assumption) ?_ ?_
  rotate_left 2
  · intro W hW
    go_simp
    try with_reducible rfl
  · simp only [Act.put, List.setIfInBounds_toArray, List.set_cons_zero, List.set_cons_succ]
    try with_reducible rfl
  refine takeT (i := 51) (v := ?_) (a' := ?_) 81 (bitsL 100 4503599627370495) (by kernel_rfl) rfl rfl (by kernel_rfl) (fun _ _ _ h => h) (Or.inl ⟨by rfl, ?_⟩) (by assumption) ?_ ?_
  rotate_left 2
  · intro W hW
    go_simp
    try with_reducible rfl
  · simp only [Act.put, List.setIfInBounds_toArray, List.set_cons_zero, List.set_cons_succ]
    try with_reducible rfl
  refine takeT (i := 52) (v := ?_) (a' := ?_) 82 (bitsL 100 9007199254740991) (by kernel_rfl) rfl rfl (by kernel_rfl) (fun _ _ _ h => h) (Or.inl ⟨by rfl, ?_⟩) (by assumption) ?_ ?_
  rotate_left 2
  · intro W hW
    obtain ⟨⟨r0, r1, r2, r3, r4⟩, ⟨s0, s1, s2, s3, s4⟩, t0, t1, t2, t3, t4⟩ := ex_cells (L17.out.below hW)
    go_simp
    try with_reducible rfl
  · simp only [Act.put, List.setIfInBounds_toArray, List.set_cons_zero, List.set_cons_succ]
    try with_reducible rfl
  refine takeT (i := 53) (v := ?_) (a' := ?_) 83 (bitsL 100 18014398509481983) (by kernel_rfl) rfl rfl (by kernel_rfl) (fun _ _ _ h => h) (Or.inl ⟨by rfl, ?_⟩) (by assumption) ?_ ?_
  rotate_left 2
  · intro W hW
    go_simp
    try with_reducible rfl
  · simp only [Act.put, List.setIfInBounds_toArray, List.set_cons_zero, List.set_cons_succ]
    try with_reducible rfl
  refine takeT (i := 54) (v := ?_) (a' := ?_) 84 (bitsL 100 36028797018963967) (by kernel_rfl) rfl rfl (by kernel_rfl) (fun _ _ _ h => h) (Or.inl ⟨by rfl, ?_⟩) (by assumption) ?_ ?_
  rotate_left 2
  · intro W hW
    go_simp
    try with_reducible rfl
  · simp only [Act.put, List.setIfInBounds_toArray, List.set_cons_zero, List.set_cons_succ]
    try with_reducible rfl
  refine takeT (i := 55) (v := ?_) (a' := ?_) 85 (bitsL 100 72057594037927935) (by kernel_rfl) rfl rfl (by kernel_rfl) (fun _ _ _ h => h) (Or.inl ⟨by rfl, ?_⟩) (by assumption) ?_ ?_
  rotate_left 2
  · intro W hW
    obtain ⟨⟨r0, r1, r2, r3, r4⟩, ⟨s0, s1, s2, s3, s4⟩, t0, t1, t2, t3, t4⟩ := ex_cells (L17.out.below hW)
    go_simp
    try with_reducible rfl
  · simp only [Act.put, List.setIfInBounds_toArray, List.set_cons_zero, List.set_cons_succ]
    try with_reducible rfl
  have C0 := Lib.hid (kover_any ⟨#[97]⟩ 0 0 false (vA a 3) exA ⟨#[98]⟩ 0 0 false (vA b 2) exB (by decide) (by decide) w17 (ex_lists L17.out).1 (ex_lists L17.out).2.1)
  rw [ex_ab] at C0
  refine callT (i := 56) (R := fun u W' => u = .bool false ∧ Below w17.heap.size w17 W') 86 (bitsL 100 144115188075855871) (by kernel_rfl) (by kernel_rfl) rfl rfl (by rfl) (by kernel_rfl) (C0.out.mono fun e w' h => ⟨_, h.1, rfl, h.2⟩) ?_
  rintro u w18 ⟨rfl, yw18⟩
  refine ⟨yw18, ?_⟩
  clear C0
  refine actT (a' := ?_) ?_ ?_
  rotate_left 1
  · simp only [Act.put, List.setIfInBounds_toArray, List.set_cons_zero, List.set_cons_succ]
    try with_reducible rfl
  refine behindT (w := w18) yw18 ?_
  have L18 := Lib.hid (L17.out.below yw18)
  have GP18 := Lib.hid (GP17.out.below yw18)
  have B18 : Hid (Below w.heap.size w w18) := B17.out.trans (yw18.mono B17.out.size)
  clear L17 GP17 B17
  clear hHeld yw18
  have hHeld := Below.refl w18.heap.size w18
  refine takeT (i := 57) (v := ?_) (a' := ?_) 87 (bitsL 100 288230376151711743) (by kernel_rfl) rfl rfl (by kernel_rfl) (fun _ _ _ h => h) (Or.inl ⟨by rfl, ?_⟩) (by assumption) ?_ ?_
  rotate_left 2
  · intro W hW
    go_simp
    try with_reducible rfl
  · simp only [Act.put, List.setIfInBounds_toArray, List.set_cons_zero, List.set_cons_succ]
    try with_reducible rfl
  refine takeT (i := 58) (v := ?_) (a' := ?_) 88 (bitsL 100 576460752303423487) (by kernel_rfl) rfl rfl (by kernel_rfl) (fun _ _ _ h => h) (Or.inl ⟨by rfl, ?_⟩) (by assumption) ?_ ?_
  rotate_left 2
  · intro W hW
    go_simp
    try with_reducible rfl
  · simp only [Act.put, List.setIfInBounds_toArray, List.set_cons_zero, List.set_cons_succ]
    try with_reducible rfl
  refine takeT (i := 59) (v := ?_) (a' := ?_) 89 (bitsL 100 1152921504606846975) (by kernel_rfl) rfl rfl (by kernel_rfl) (fun _ _ _ h => h) (Or.inl ⟨by rfl, ?_⟩) (by assumption) ?_ ?_
  rotate_left 2
  · intro W hW
    go_simp
    try with_reducible rfl
  · simp only [Act.put, List.setIfInBounds_toArray, List.set_cons_zero, List.set_cons_succ]
    try with_reducible rfl
  refine takeT (i := 60) (v := ?_) (a' := ?_) 90 (bitsL 100 2305843009213693951) (by kernel_rfl) rfl rfl (by kernel_rfl) (fun _ _ _ h => h) (Or.inl ⟨by rfl, ?_⟩) (by assumption) ?_ ?_
  rotate_left 2
  · intro W hW
    go_simp
    try with_reducible rfl
  · simp only [Act.put, List.setIfInBounds_toArray, List.set_cons_zero, List.set_cons_succ]
    try with_reducible rfl
  refine takeT (i := 61) (v := ?_) (a' := ?_) 91 (bitsL 100 4611686018427387903) (by kernel_rfl) rfl rfl (by kernel_rfl) (fun _ _ _ h => h) (Or.inl ⟨by rfl, ?_⟩) (by assumption) ?_ ?_
  rotate_left 2
  · intro W hW
    go_simp
    try with_reducible rfl
  · simp only [Act.put, List.setIfInBounds_toArray, List.set_cons_zero, List.set_cons_succ]
    try with_reducible rfl
  refine takeT (i := 62) (v := ?_) (a' := ?_) 92 (bitsL 100 9223372036854775807) (by kernel_rfl) rfl rfl (by kernel_rfl) (fun _ _ _ h => h) (Or.inl ⟨by rfl, ?_⟩) (by assumption) ?_ ?_
  rotate_left 2
  · intro W hW
    go_simp
    try with_reducible rfl
  · simp only [Act.put, List.setIfInBounds_toArray, List.set_cons_zero, List.set_cons_succ]
    try with_reducible rfl
  refine takeT (i := 63) (v := ?_) (a' := ?_) 93 (bitsL 100 18446744073709551615) (by kernel_rfl) rfl rfl (by kernel_rfl) (fun _ _ _ h => h) (Or.inl ⟨by rfl, ?_⟩) (by assumption) ?_ ?_
  rotate_left 2
  · intro W hW
    go_simp
    try with_reducible rfl
  · simp only [Act.put, List.setIfInBounds_toArray, List.set_cons_zero, List.set_cons_succ]
    try with_reducible rfl
  refine takeT (i := 64) (v := ?_) (a' := ?_) 94 (bitsL 100 36893488147419103231) (by kernel_rfl) rfl rfl (by kernel_rfl) (fun _ _ _ h => h) (Or.inl ⟨by rfl, ?_⟩) (by assumption) ?_ ?_
  rotate_left 2
  · intro W hW
    go_simp
    try with_reducible rfl
  · simp only [Act.put, List.setIfInBounds_toArray, List.set_cons_zero, List.set_cons_succ]
    try with_reducible rfl
  refine takeT (i := 65) (v := ?_) (a' := ?_) 95 (bitsL 100 73786976294838206463) (by kernel_rfl) rfl rfl (by kernel_rfl) (fun _ _ _ h => h) (Or.inl ⟨by rfl, ?_⟩) (by assumption) ?_ ?_
  rotate_left 2
  · intro W hW
    go_simp
    try with_reducible rfl
  · simp only [Act.put, List.setIfInBounds_toArray, List.set_cons_zero, List.set_cons_succ]
    try with_reducible rfl
  refine takeT (i := 66) (v := ?_) (a' := ?_) 96 (bitsL 100 147573952589676412927) (by kernel_rfl) rfl rfl (by kernel_rfl) (fun _ _ _ h => h) (Or.inl ⟨by rfl, ?_⟩) (by assumption) ?_ ?_
  rotate_left 2
  · intro W hW
    go_simp
    try with_reducible rfl
  · simp only [Act.put, List.setIfInBounds_toArray, List.set_cons_zero, List.set_cons_succ]
    try with_reducible rfl
  refine takeT (i := 67) (v := ?_) (a' := ?_) 97 (bitsL 100 295147905179352825855) (by kernel_rfl) rfl rfl (by kernel_rfl) (fun _ _ _ h => h) (Or.inl ⟨by rfl, ?_⟩) (by assumption) ?_ ?_
  rotate_left 2
  · intro W hW
    go_simp
    try with_reducible rfl
  · simp only [Act.put, List.setIfInBounds_toArray, List.set_cons_zero, List.set_cons_succ]
    try with_reducible rfl
  refine takeT (i := 68) (v := ?_) (a' := ?_) 98 (bitsL 100 590295810358705651711) (by kernel_rfl) rfl rfl (by kernel_rfl) (fun _ _ _ h => h) (Or.inl ⟨by rfl, ?_⟩) (by assumption) ?_ ?_
  rotate_left 2
  · intro W hW
    go_simp
    try with_reducible rfl
  · simp only [Act.put, List.setIfInBounds_toArray, List.set_cons_zero, List.set_cons_succ]
    try with_reducible rfl
  refine takeT (i := 69) (v := ?_) (a' := ?_) 99 (bitsL 100 1180591620717411303423) (by kernel_rfl) rfl rfl (by kernel_rfl) (fun _ _ _ h => h) (Or.inl ⟨by rfl, ?_⟩) (by assumption) ?_ ?_
  rotate_left 2
  · intro W hW
    go_simp
    try with_reducible rfl
  · simp only [Act.put, List.setIfInBounds_toArray, List.set_cons_zero, List.set_cons_succ]
    try with_reducible rfl
  refine takeT (i := 70) (v := ?_) (a' := ?_) 100 (bitsL 100 2361183241434822606847) (by kernel_rfl) rfl rfl (by kernel_rfl) (fun _ _ _ h => h) (Or.inl ⟨by rfl, ?_⟩) (by assumption) ?_ ?_
  rotate_left 2
  · intro W hW
    go_simp
    try with_reducible rfl
  · simp only [Act.put, List.setIfInBounds_toArray, List.set_cons_zero, List.set_cons_succ]
    try with_reducible rfl
  refine takeT (i := 71) (v := ?_) (a' := ?_) 101 (bitsL 100 4722366482869645213695) (by kernel_rfl) rfl rfl (by kernel_rfl) (fun _ _ _ h => h) (Or.inl ⟨by rfl, ?_⟩) (by assumption) ?_ ?_
  rotate_left 2
  · intro W hW
    go_simp
    try with_reducible rfl
  · simp only [Act.put, List.setIfInBounds_toArray, List.set_cons_zero, List.set_cons_succ]
    try with_reducible rfl
  refine takeT (i := 72) (v := ?_) (a' := ?_) 102 (bitsL 100 9444732965739290427391) (by kernel_rfl) rfl rfl (by kernel_rfl) (fun _ _ _ h => h) (Or.inl ⟨by rfl, ?_⟩) (by assumption) ?_ ?_
  rotate_left 2
  · intro W hW
    go_simp
    try with_reducible rfl
  · simp only [Act.put, List.setIfInBounds_toArray, List.set_cons_zero, List.set_cons_succ]
    try with_reducible rfl
  refine takeT (i := 73) (v := ?_) (a' := ?_) 103 (bitsL 100 18889465931478580854783) (by kernel_rfl) rfl rfl (by kernel_rfl) (fun _ _ _ h => h) (Or.inl ⟨by rfl, ?_⟩) (by assumption) ?_ ?_
  rotate_left 2
  · intro W hW
    go_simp
    try with_reducible rfl
  · simp only [Act.put, List.setIfInBounds_toArray, List.set_cons_zero, List.set_cons_succ]
    try with_reducible rfl
  refine takeT (i := 74) (v := ?_) (a' := ?_) 104 (bitsL 100 37778931862957161709567) (by kernel_rfl) rfl rfl (by kernel_rfl) (fun _ _ _ h => h) (Or.inl ⟨by rfl, ?_⟩) (by assumption) ?_ ?_
  rotate_left 2
  · intro W hW
    go_simp
    try with_reducible rfl
  · simp only [Act.put, List.setIfInBounds_toArray, List.set_cons_zero, List.set_cons_succ]
    try with_reducible rfl
  refine takeT (i := 75) (v := ?_) (a' := ?_) 105 (bitsL 100 75557863725914323419135) (by kernel_rfl) rfl rfl (by kernel_rfl) (fun _ _ _ h => h) (Or.inl ⟨by rfl, ?_⟩) (by assumption) ?_ ?_
  rotate_left 2
  · intro W hW
    go_simp
    try with_reducible rfl
  · simp only [Act.put, List.setIfInBounds_toArray, List.set_cons_zero, List.set_cons_succ]
    try with_reducible rfl
  refine takeT (i := 76) (v := ?_) (a' := ?_) 106 (bitsL 100 151115727451828646838271) (by kernel_rfl) rfl rfl (by kernel_rfl) (fun _ _ _ h => h) (Or.inl ⟨by rfl, ?_⟩) (by assumption) ?_ ?_
  rotate_left 2
  · intro W hW
    go_simp
    try with_reducible rfl
  · simp only [Act.put, List.setIfInBounds_toArray, List.set_cons_zero, List.set_cons_succ]
    try with_reducible rfl
  refine takeT (i := 77) (v := ?_) (a' := ?_) 107 (bitsL 100 302231454903657293676543) (by kernel_rfl) rfl rfl (by kernel_rfl) (fun _ _ _ h => h) (Or.inl ⟨by rfl, ?_⟩) (by assumption) ?_ ?_
  rotate_left 2
  · intro W hW
    go_simp
    try with_reducible rfl
  · simp only [Act.put, List.setIfInBounds_toArray, List.set_cons_zero, List.set_cons_succ]
    try with_reducible rfl
  refine takeT (i := 78) (v := ?_) (a' := ?_) 108 (bitsL 100 604462909807314587353087) (by kernel_rfl) rfl rfl (by kernel_rfl) (fun _ _ _ h => h) (Or.inl ⟨by rfl, ?_⟩) (by assumption) ?_ ?_
  rotate_left 2
  · intro W hW
    go_simp
    try with_reducible rfl
  · simp only [Act.put, List.setIfInBounds_toArray, List.set_cons_zero, List.set_cons_succ]
    try with_reducible rfl
  refine takeT (i := 79) (v := ?_) (a' := ?_) 109 (bitsL 100 1208925819614629174706175) (by kernel_rfl) rfl rfl (by kernel_rfl) (fun _ _ _ h => h) (Or.inl ⟨by rfl, ?_⟩) (by assumption) ?_ ?_
  rotate_left 2
  · intro W hW
    go_simp
    try with_reducible rfl
  · simp only [Act.put, List.setIfInBounds_toArray, List.set_cons_zero, List.set_cons_succ]
    try with_reducible rfl
  refine takeT (i := 80) (v := ?_) (a' := ?_) 110 (bitsL 100 2417851639229258349412351) (by kernel_rfl) rfl rfl (by kernel_rfl) (fun _ _ _ h => h) (Or.inl ⟨by rfl, ?_⟩) (by assumption) ?_ ?_
  rotate_left 2
  · intro W hW
    go_simp
    try with_reducible rfl
  · simp only [Act.put, List.setIfInBounds_toArray, List.set_cons_zero, List.set_cons_succ]
    try with_reducible rfl
  refine takeT (i := 81) (v := ?_) (a' := ?_) 111 (bitsL 100 4835703278458516698824703) (by kernel_rfl) rfl rfl (by kernel_rfl) (fun _ _ _ h => h) (Or.inl ⟨by rfl, ?_⟩) (by assumption) ?_ ?_
  rotate_left 2
  · intro W hW
    go_simp
    try with_reducible rfl
  · simp only [Act.put, List.setIfInBounds_toArray, List.set_cons_zero, List.set_cons_succ]
    try with_reducible rfl
  refine takeT (i := 82) (v := ?_) (a' := ?_) 112 (bitsL 100 9671406556917033397649407) (by kernel_rfl) rfl rfl (by kernel_rfl) (fun _ _ _ h => h) (Or.inl ⟨by rfl, ?_⟩) (by assumption) ?_ ?_
  rotate_left 2
  · intro W hW
    go_simp
    try with_reducible rfl
  · simp only [Act.put, List.setIfInBounds_toArray, List.set_cons_zero, List.set_cons_succ]
    try with_reducible rfl
  refine takeT (i := 83) (v := ?_) (a' := ?_) 113 (bitsL 100 19342813113834066795298815) (by kernel_rfl) rfl rfl (by kernel_rfl) (fun _ _ _ h => h) (Or.inl ⟨by rfl, ?_⟩) (by assumption) ?_ ?_
  rotate_left 2
  · intro W hW
    go_simp
    try with_reducible rfl
  · simp only [Act.put, List.setIfInBounds_toArray, List.set_cons_zero, List.set_cons_succ]
    try with_reducible rfl
  refine takeT (i := 84) (v := ?_) (a' := ?_) 114 (bitsL 100 38685626227668133590597631) (by kernel_rfl) rfl rfl (by kernel_rfl) (fun _ _ _ h => h) (Or.inl ⟨by rfl, ?_⟩) (by assumption) ?_ ?_
  rotate_left 2
  · intro W hW
    go_simp
    try with_reducible rfl
  · simp only [Act.put, List.setIfInBounds_toArray, List.set_cons_zero, List.set_cons_succ]
    try with_reducible rfl
  refine takeT (i := 85) (v := ?_) (a' := ?_) 115 (bitsL 100 77371252455336267181195263) (by kernel_rfl) rfl rfl (by kernel_rfl) (fun _ _ _ h => h) (Or.inl ⟨by rfl, ?_⟩) (by assumption) ?_ ?_
  rotate_left 2
  · intro W hW
    obtain ⟨⟨r0, r1, r2, r3, r4⟩, ⟨s0, s1, s2, s3, s4⟩, t0, t1, t2, t3, t4⟩ := ex_cells (L18.out.below hW)
    go_simp
    try with_reducible rfl
  · simp only [Act.put, List.setIfInBounds_toArray, List.set_cons_zero, List.set_cons_succ]
    try with_reducible rfl
  refine twoT (i := 86) (j := 87) 116 117 (bitsL 100 309485009821345068724781055) (by kernel_rfl) (by kernel_rfl) (by kernel_rfl) (by kernel_rfl) (by decide) rfl rfl (by rfl) (by rfl) (fun _ => by rfl) (fun _ => by rfl) (by decide)
    (fun W u q => ∃ A m b, u = .slice A 3 m ∧ q = .slice (some ⟨b, 0, none⟩) 3 3 ∧ LstI W u [0, 1, 2] ∧ LstI W q [0, 1, 2])
    (fun W u => ∃ A m, u = .slice A 3 m ∧ LstI W u [0, 1, 2]) (fun W q => ∃ b, q = .slice (some ⟨b, 0, none⟩) 3 3 ∧ LstI W q [0, 1, 2]) ?_ ?_ ?_ ?_ ?_
  · intro K hK
    have C0 := Lib.hid (kpat_any ⟨#[97]⟩ 0 0 false (vA a 3) exA (by decide) w18 (ex_lists (L18.out.below (Below.refl w18.heap.size w18))).1)
    refine operC (R := fun u W' => (∃ A m, u = .slice A 3 m ∧ LstI W' u [0, 1, 2]) ∧ Below w18.heap.size w18 W') 116 rfl (by kernel_rfl) (C0.out.mono ?_) ?_
    · rintro e W1 ⟨u, rfl, o, b⟩
      rw [ex_pat] at o
      have I := OwnI.lst o
      obtain ⟨A, m, rfl, -, -, -⟩ := _root_.id I
      simp only [List.length_cons, List.length_nil] at I ⊢
      exact ⟨_, rfl, ⟨A, m, rfl, I⟩, b⟩
    · rintro u W1 ⟨⟨A, m, rfl, I⟩, b⟩
      exact hK.out _ _ _ rfl b ⟨A, m, rfl, I⟩
  · intro u W hW hR K hK
    obtain ⟨A, m, rfl, I⟩ := hR
    refine operV (v := .slice (some ⟨W.heap.size, 0, none⟩) 3 3) (w' := W.alloc (.cells #[.int .i64 0, .int .i64 1, .int .i64 2] 3 (0, 0))) 117 rfl (by kernel_rfl) ?_
    exact hK.out _ _ _ rfl (hW.alloc hW.size _) ⟨A, m, _, rfl, rfl, I.below ((Below.refl _ _).alloc (Nat.le_refl _) _), lsti_lit _ #[.int .i64 0, .int .i64 1, .int .i64 2] [0, 1, 2] rfl 3 rfl⟩
  · intro K hK
    refine operV (v := .slice (some ⟨w18.heap.size, 0, none⟩) 3 3) (w' := w18.alloc (.cells #[.int .i64 0, .int .i64 1, .int .i64 2] 3 (0, 0))) 117 rfl (by kernel_rfl) ?_
    exact hK.out _ _ _ rfl ((Below.refl _ _).alloc (Nat.le_refl _) _) ⟨_, rfl, lsti_lit _ #[.int .i64 0, .int .i64 1, .int .i64 2] [0, 1, 2] rfl 3 rfl⟩
  · intro q W hW hR K hK
    obtain ⟨b0, rfl, J⟩ := hR
    have C0 := Lib.hid (kpat_any ⟨#[97]⟩ 0 0 false (vA a 3) exA (by decide) W (ex_lists (L18.out.below hW)).1)
    refine operC (R := fun u W' => (∃ A m, u = .slice A 3 m ∧ LstI W' u [0, 1, 2]) ∧ Below W.heap.size W W') 116 rfl (by kernel_rfl) (C0.out.mono ?_) ?_
    · rintro e W1 ⟨u, rfl, o, b⟩
      rw [ex_pat] at o
      have I := OwnI.lst o
      obtain ⟨A, m, rfl, -, -, -⟩ := _root_.id I
      simp only [List.length_cons, List.length_nil] at I ⊢
      exact ⟨_, rfl, ⟨A, m, rfl, I⟩, b⟩
    · rintro u W1 ⟨⟨A, m, rfl, I⟩, b⟩
      exact hK.out _ _ _ rfl (hW.trans (b.mono hW.size)) ⟨A, m, _, rfl, rfl, I, J.below b⟩
  intro u q w19 yw19 hR
  obtain ⟨A, m, b0, rfl, rfl, hI, hJ⟩ := hR
  have I2 := Lib.hid hI
  have K19 := Lib.hid hJ
  clear hI hJ
  refine actT (a' := ?_) ?_ ?_
  rotate_left 1
  · simp only [Act.put, List.setIfInBounds_toArray, List.set_cons_zero, List.set_cons_succ]
    try with_reducible rfl
  refine behindT (w := w19) yw19 ?_
  have L19 := Lib.hid (L18.out.below yw19)
  have GP19 := Lib.hid (GP18.out.below yw19)
  have B19 : Hid (Below w.heap.size w w19) := B18.out.trans (yw19.mono B18.out.size)
  clear L18 GP18 B18
  clear hHeld yw19
  have hHeld := Below.refl w19.heap.size w19
  have C0 := Lib.hid (Calls.below (lsame_any (.slice A 3 m) (.slice (some ⟨b0, 0, none⟩) 3 3) [0, 1, 2] [0, 1, 2] (by decide) w19 I2.out K19.out))
  rw [show decide (([0, 1, 2] : List Int) = [0, 1, 2]) = true from decide_eq_true rfl] at C0
  refine callT (i := 88) (R := fun u W' => u = .bool true ∧ Below w19.heap.size w19 W') 118 (bitsL 100 618970019642690137449562111) (by kernel_rfl) (by kernel_rfl) rfl rfl (by rfl) (by kernel_rfl) (C0.out.mono fun e w' h => ⟨_, h.1, rfl, h.2⟩) ?_
  rintro u w20 ⟨rfl, yw20⟩
  refine ⟨yw20, ?_⟩
  clear C0
  clear I2 K19
  refine actT (a' := ?_) ?_ ?_
  rotate_left 1
  · simp only [Act.put, List.setIfInBounds_toArray, List.set_cons_zero, List.set_cons_succ]
    try with_reducible rfl
  refine behindT (w := w20) yw20 ?_
  have L20 := Lib.hid (L19.out.below yw20)
  have GP20 := Lib.hid (GP19.out.below yw20)
  have B20 : Hid (Below w.heap.size w w20) := B19.out.trans (yw20.mono B19.out.size)
  clear L19 GP19 B19
  clear hHeld yw20
  have hHeld := Below.refl w20.heap.size w20
  refine takeT (i := 89) (v := ?_) (a' := ?_) 119 (bitsL 100 1237940039285380274899124223) (by kernel_rfl) rfl rfl (by kernel_rfl) (fun _ _ _ h => h) (Or.inl ⟨by rfl, ?_⟩) (by assumption) ?_ ?_
  rotate_left 2
  · intro W hW
    go_simp
    try with_reducible rfl
  · simp only [Act.put, List.setIfInBounds_toArray, List.set_cons_zero, List.set_cons_succ]
    try with_reducible rfl
  refine takeT (i := 90) (v := ?_) (a' := ?_) 120 (bitsL 100 2475880078570760549798248447) (by kernel_rfl) rfl rfl (by kernel_rfl) (fun _ _ _ h => h) (Or.inl ⟨by rfl, ?_⟩) (by assumption) ?_ ?_
  rotate_left 2
  · intro W hW
    go_simp
    try with_reducible rfl
  · simp only [Act.put, List.setIfInBounds_toArray, List.set_cons_zero, List.set_cons_succ]
    try with_reducible rfl
  refine takeT (i := 91) (v := ?_) (a' := ?_) 121 (bitsL 100 4951760157141521099596496895) (by kernel_rfl) rfl rfl (by kernel_rfl) (fun _ _ _ h => h) (Or.inl ⟨by rfl, ?_⟩) (by assumption) ?_ ?_
  rotate_left 2
  · intro W hW
    go_simp
    try with_reducible rfl
  · simp only [Act.put, List.setIfInBounds_toArray, List.set_cons_zero, List.set_cons_succ]
    try with_reducible rfl
  refine takeT (i := 92) (v := ?_) (a' := ?_) 122 (bitsL 100 9903520314283042199192993791) (by kernel_rfl) rfl rfl (by kernel_rfl) (fun _ _ _ h => h) (Or.inl ⟨by rfl, ?_⟩) (by assumption) ?_ ?_
  rotate_left 2
  · intro W hW
    go_simp
    try with_reducible rfl
  · simp only [Act.put, List.setIfInBounds_toArray, List.set_cons_zero, List.set_cons_succ]
    try with_reducible rfl
  refine takeT (i := 93) (v := ?_) (a' := ?_) 123 (bitsL 100 19807040628566084398385987583) (by kernel_rfl) rfl rfl (by kernel_rfl) (fun _ _ _ h => h) (Or.inl ⟨by rfl, ?_⟩) (by assumption) ?_ ?_
  rotate_left 2
  · intro W hW
    obtain ⟨⟨r0, r1, r2, r3, r4⟩, ⟨s0, s1, s2, s3, s4⟩, t0, t1, t2, t3, t4⟩ := ex_cells (L20.out.below hW)
    go_simp
    try with_reducible rfl
  · simp only [Act.put, List.setIfInBounds_toArray, List.set_cons_zero, List.set_cons_succ]
    try with_reducible rfl
  refine takeT (i := 94) (v := ?_) (a' := ?_) 124 (bitsL 100 39614081257132168796771975167) (by kernel_rfl) rfl rfl (by kernel_rfl) (fun _ _ _ h => h) (Or.inl ⟨by rfl, ?_⟩) (by assumption) ?_ ?_
  rotate_left 2
  · intro W hW
    go_simp
    try with_reducible rfl
  · simp only [Act.put, List.setIfInBounds_toArray, List.set_cons_zero, List.set_cons_succ]
    try with_reducible rfl
  refine takeT (i := 95) (v := ?_) (a' := ?_) 125 (bitsL 100 79228162514264337593543950335) (by kernel_rfl) rfl rfl (by kernel_rfl) (fun _ _ _ h => h) (Or.inl ⟨by rfl, ?_⟩) (by assumption) ?_ ?_
  rotate_left 2
  · intro W hW
    go_simp
    try with_reducible rfl
  · simp only [Act.put, List.setIfInBounds_toArray, List.set_cons_zero, List.set_cons_succ]
    try with_reducible rfl
  refine takeT (i := 96) (v := ?_) (a' := ?_) 126 (bitsL 100 158456325028528675187087900671) (by kernel_rfl) rfl rfl (by kernel_rfl) (fun _ _ _ h => h) (Or.inl ⟨by rfl, ?_⟩) (by assumption) ?_ ?_
  rotate_left 2
  · intro W hW
    obtain ⟨⟨r0, r1, r2, r3, r4⟩, ⟨s0, s1, s2, s3, s4⟩, t0, t1, t2, t3, t4⟩ := ex_cells (L20.out.below hW)
    go_simp
    try with_reducible rfl
  · simp only [Act.put, List.setIfInBounds_toArray, List.set_cons_zero, List.set_cons_succ]
    try with_reducible rfl
  have C0 := Lib.hid (ksame_any ⟨#[97]⟩ 0 0 false (vA a 3) exA ⟨#[99]⟩ 0 0 false (vA c 3) exC (by decide) w20 (ex_lists L20.out).1 (ex_lists L20.out).2.2)
  rw [ex_same] at C0
  refine callT (i := 97) (R := fun u W' => u = .bool true ∧ Below w20.heap.size w20 W') 127 (bitsL 100 316912650057057350374175801343) (by kernel_rfl) (by kernel_rfl) rfl rfl (by rfl) (by kernel_rfl) (C0.out.mono fun e w' h => ⟨_, h.1, rfl, h.2⟩) ?_
  rintro u w21 ⟨rfl, yw21⟩
  refine ⟨yw21, ?_⟩
  clear C0
  refine actT (a' := ?_) ?_ ?_
  rotate_left 1
  · simp only [Act.put, List.setIfInBounds_toArray, List.set_cons_zero, List.set_cons_succ]
    try with_reducible rfl
  refine behindT (w := w21) yw21 ?_
  have L21 := Lib.hid (L20.out.below yw21)
  have GP21 := Lib.hid (GP20.out.below yw21)
  have B21 : Hid (Below w.heap.size w w21) := B20.out.trans (yw21.mono B20.out.size)
  clear L20 GP20 B20
  clear hHeld yw21
  have hHeld := Below.refl w21.heap.size w21
  refine takeT (i := 98) (v := ?_) (a' := ?_) 128 (bitsL 100 633825300114114700748351602687) (by kernel_rfl) rfl rfl (by kernel_rfl) (fun _ _ _ h => h) (Or.inl ⟨by rfl, ?_⟩) (by assumption) ?_ ?_
  rotate_left 2
  · intro W hW
    go_simp
    try with_reducible rfl
  · simp only [Act.put, List.setIfInBounds_toArray, List.set_cons_zero, List.set_cons_succ]
    try with_reducible rfl
  refine takeT (i := 99) (v := ?_) (a' := ?_) 0 (bitsL 100 1267650600228229401496703205375) (by kernel_rfl) rfl rfl (by kernel_rfl) (fun _ _ _ h => h) (Or.inl ⟨by rfl, ?_⟩) (by assumption) ?_ ?_
  rotate_left 2
  · intro W hW
    go_simp
    try with_reducible rfl
  · simp only [Act.put, List.setIfInBounds_toArray, List.set_cons_zero]
    try with_reducible rfl
  refine doneT (by kernel_rfl) ?_
  go_wp2_with fail
  go_ret
  exact ⟨rfl, B21.out⟩
end Go.Proofs.YtfbobfejnbhjbaaDoor
