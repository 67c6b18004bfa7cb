/-
  The law TimetableSizes, from what the program's Check and Sizes answer: it answers true for every input; nothing that existed before the call has changed behind it. Condition: lengths of 63 bits.
-/
import Derived.Test.YtkhalnjgbdpfhaaTtZ
namespace Go.Proofs.Ytkhalnjgbdpfhaa
open Go.RowKit

set_option maxRecDepth 100000 in
set_option maxHeartbeats 4000000 in
theorem sizes_law (CK : CkC) (SZ : SzC) (a : Nat → Option Addr) (c : Nat → Nat) (T : Tt) (ln : LnTt T) (ok : OkTt T) (w : World) (h : TtL w a c T) : Calls Try.prog 3 #[ttV a c T] w fun e w' => e = .returned (.bool true) ∧ Below w.heap.size w w' := by
  obtain ⟨w7, hw7⟩ : ∃ W, w.alloc (boxTt a c T) = W := ⟨_, rfl⟩
  obtain ⟨b7, s7, c7⟩ := box_tt hw7
  obtain ⟨p0, p1, p2, p3, p4, p5, p6, p7, p8, p9, p10, p11, p12⟩ := row_tt c7
  have B7 := Lib.hid b7
  have C7 := Lib.hid c7
  have LA : Hid (w.heap.size < w7.heap.size) := Lib.hid s7
  have H := Lib.hid (fun W (hW : Below w7.heap.size w7 W) => (h.below b7).below hW)
  have K0 := Lib.hid (fun W (hW : Below w7.heap.size w7 W) => rfew_any a c T W (H.out W hW))
  have K9 := Lib.hid (fun W (_ : Below w7.heap.size w7 W) => ex_any CK SZ W)
  have HB : Hid (Below w7.heap.size w7 w7) := Lib.hid (Below.refl _ _)
  clear c7 s7 b7 h
  by_cases hf : fewT T = true
  case neg =>
    rw [Bool.not_eq_true] at hf
    rw [hf] at K0
    clear H
    go_enter Try.func3, Try.ntmps3
    go_wp2_with fail
    refine (K0.out w7 HB.out).mono ?_
    rintro e w8 ⟨rfl, bw8⟩
    replace HB := Lib.hid (HB.out.trans (bw8.mono HB.out.size))
    clear bw8 p0 p1 p2 p3 p4 p5 p6 p7 p8 p9 p10 p11 p12
    go_wp2_with fail
    refine (K9.out w8 HB.out).mono ?_
    rintro e w9 ⟨rfl, bw9⟩
    replace HB := Lib.hid (HB.out.trans (bw9.mono HB.out.size))
    clear bw9
    go_wp2_with fail
    go_ret
    exact ⟨rfl, B7.out.trans (HB.out.mono B7.out.size)⟩
  have K1 := Lib.hid (fun W (hW : Below w7.heap.size w7 W) => SZ a c T W hf ok ln (H.out W hW))
  have K2 := Lib.hid (fun W (hW : Below w7.heap.size w7 W) => rsz_any a c T hf W (H.out W hW))
  rw [hf] at K0
  obtain ⟨z0, z1, z2, z3, z4, z5, z6, z7, z8, z9, z10, hz⟩ : ∃ z0 z1 z2 z3 z4 z5 z6 z7 z8 z9 z10 : Int, szV T = .agg #[.int .i64 z0, .int .i64 z1, .int .i64 z2, .int .i64 z3, .int .i64 z4, .int .i64 z5, .int .i64 z6, .int .i64 z7, .int .i64 z8, .int .i64 z9, .int .i64 z10] := ⟨_, _, _, _, _, _, _, _, _, _, _, rfl⟩
  rw [hz] at K1 K2
  clear hf hz H
  go_enter Try.func3, Try.ntmps3
  go_wp2_with fail
  refine (K0.out w7 HB.out).mono ?_
  rintro e w8 ⟨rfl, bw8⟩
  replace HB := Lib.hid (HB.out.trans (bw8.mono HB.out.size))
  clear bw8 p0 p1 p2 p3 p4 p5 p6 p7 p8 p9 p10 p11 p12
  go_wp2_with fail
  refine wp_region_held_drew (S := fun W => Below w8.heap.size w8 W) (by kernel_rfl) ((Below.refl _ _).drew) (fun hHeld => ?_)
  have hB0 := Lib.hid hHeld
  refine takeH (i := 0) (v := ?_) 7 rfl rfl (by kernel_rfl) (by kernel_rfl) (by kernel_rfl) (fun _ _ _ h => h) (Or.inl ⟨by rfl, ?_⟩) (by assumption) ?_
  rotate_left 1
  · intro W hW
    obtain ⟨p0, p1, p2, p3, p4, p5, p6, p7, p8, p9, p10, p11, p12⟩ := row_tt (((HB.out.trans (hW.mono HB.out.size)).block _ LA.out).trans C7.out)
    go_simp
    try with_reducible rfl
  simp only [Act.put, List.setIfInBounds_toArray, List.set_cons_zero, List.set_cons_succ]
  refine takeH (i := 2) (v := ?_) 9 rfl rfl (by kernel_rfl) (by kernel_rfl) (by kernel_rfl) (fun _ _ _ h => h) (Or.inl ⟨by rfl, ?_⟩) (by assumption) ?_
  rotate_left 1
  · intro W hW
    obtain ⟨p0, p1, p2, p3, p4, p5, p6, p7, p8, p9, p10, p11, p12⟩ := row_tt (((HB.out.trans (hW.mono HB.out.size)).block _ LA.out).trans C7.out)
    go_simp
    try with_reducible rfl
  simp only [Act.put, List.setIfInBounds_toArray, List.set_cons_zero, List.set_cons_succ]
  refine wpAnyH_ready (rs := [1]) (by kernel_rfl) (by simp) ?_
  refine AllReadyH.cons rfl (fun K hK => ?_) AllReadyH.nil
  go_simp
  refine (K1.out _ (HB.out.trans (hB0.out.mono HB.out.size))).mono ?_
  rintro e x1 ⟨rfl, y1⟩
  have hB1 := Lib.hid (bel_on hB0.out y1)
  refine hK.out _ _ (hB1.out) (fun _ => ?_)
  clear hK K hHeld
  refine wpAnyH_behind (w := x1) (hB1.out) ?_
  have hHeld := Below.refl x1.heap.size x1
  refine wpAnyH_ready (rs := [3]) (by kernel_rfl) (by simp) ?_
  refine AllReadyH.cons rfl (fun K hK => ?_) AllReadyH.nil
  go_simp
  refine (K2.out _ (HB.out.trans (hB1.out.mono HB.out.size))).mono ?_
  rintro e x2 ⟨rfl, y2⟩
  have hB2 := Lib.hid (bel_on hB1.out y2)
  have hS2 := bel_on hHeld y2
  refine hK.out _ _ hS2 (fun _ => ?_)
  refine wpAnyH_behind (w := x2) hS2 ?_
  clear hK K hHeld hS2
  have hHeld := Below.refl x2.heap.size x2
  refine takeH (i := 4) (v := ?_) 11 rfl rfl (by kernel_rfl) (by kernel_rfl) (by kernel_rfl) (fun _ _ _ h => h) (Or.inl ⟨by rfl, ?_⟩) (by assumption) ?_
  rotate_left 1
  · intro W hW
    have E := eqIn_11 z0 z1 z2 z3 z4 z5 z6 z7 z8 z9 z10 z0 z1 z2 z3 z4 z5 z6 z7 z8 z9 z10 W 9998
    go_simp
    try with_reducible rfl
  simp only [Act.put, List.setIfInBounds_toArray, List.set_cons_zero, List.set_cons_succ]
  refine takeH (i := 5) (v := ?_) 12 rfl rfl (by kernel_rfl) (by kernel_rfl) (by kernel_rfl) (fun _ _ _ h => h) (Or.inl ⟨by rfl, ?_⟩) (by assumption) ?_
  rotate_left 1
  · intro W hW
    go_simp
    try with_reducible rfl
  simp only [Act.put, List.setIfInBounds_toArray, List.set_cons_zero, List.set_cons_succ]
  refine wpAnyH_ready (rs := [6]) (by kernel_rfl) (by simp) ?_
  refine AllReadyH.cons rfl (fun K hK => ?_) AllReadyH.nil
  go_simp
  refine (K9.out _ (HB.out.trans (hB2.out.mono HB.out.size))).mono ?_
  rintro e x3 ⟨rfl, y3⟩
  have hB3 := Lib.hid (bel_on hB2.out y3)
  have hS3 := bel_on hHeld y3
  refine hK.out _ _ hS3 (fun _ => ?_)
  refine wpAnyH_behind (w := x3) hS3 ?_
  clear hK K hHeld hS3
  have hHeld := Below.refl x3.heap.size x3
  refine takeH (i := 7) (v := ?_) 14 rfl rfl (by kernel_rfl) (by kernel_rfl) (by kernel_rfl) (fun _ _ _ h => h) (Or.inl ⟨by rfl, ?_⟩) (by assumption) ?_
  rotate_left 1
  · intro W hW
    go_simp
    try with_reducible rfl
  simp only [Act.put, List.setIfInBounds_toArray, List.set_cons_zero, List.set_cons_succ]
  refine takeH (i := 8) (v := ?_) 2 rfl rfl (by kernel_rfl) (by kernel_rfl) (by kernel_rfl) (fun _ _ _ h => h) (Or.inl ⟨by rfl, ?_⟩) (by assumption) ?_
  rotate_left 1
  · intro W hW
    go_simp
    try with_reducible rfl
  simp only [Act.put, List.setIfInBounds_toArray, List.set_cons_zero, List.set_cons_succ]
  refine wpAnyH_done (by kernel_rfl) ?_ _
  have HB := Lib.hid (HB.out.trans (hB3.out.mono HB.out.size))
  go_wp2_with fail
  go_ret
  exact ⟨rfl, B7.out.trans (HB.out.mono B7.out.size)⟩
end Go.Proofs.Ytkhalnjgbdpfhaa
