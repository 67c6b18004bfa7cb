/-
  The law TimetableEquals, from what the program's Equal, Check and Sizes answer: it answers true for every input; nothing that existed before the call has changed behind it. Condition: lengths of 63 bits.
-/
import Derived.Test.YtkhalnjgbdpfhaaGreatTtX
import Derived.Test.YtkhalnjgbdpfhaaGreatTtE
import Derived.Test.YtkhalnjgbdpfhaaGreatDrH
namespace Go.Proofs.YtkhalnjgbdpfhaaGreat
open Go.RowKit

/-- What the program's Equal answers. -/
def EqC : Prop := ∀ (a a' : Nat → Option Addr) (c c' : Nat → Nat) (T U : Tt) (w : World), fewT T = true → fewT U = true → TtL w a c T → TtL w a' c' U → Calls Tryz.prog 12 #[ttV a c T, ttV a' c' U] w fun e w' => e = .returned (.bool (eqT T U)) ∧ Below w.heap.size w w'
set_option maxRecDepth 100000 in
set_option maxHeartbeats 4000000 in
theorem equals_law (CK : CkC) (SZ : SzC) (EQ : EqC) (a : Nat → Option Addr) (c : Nat → Nat) (T : Tt) (a' : Nat → Option Addr) (c' : Nat → Nat) (U : Tt) (w : World) (h : TtL w a c T) (h' : TtL w a' c' U) : Calls Tryz.prog 5 #[ttV a c T, ttV a' c' U] w fun e w' => e = .returned (.bool true) ∧ Below w.heap.size w w' := by
  obtain ⟨w7, hw7, z7, ra, rb, b7⟩ := box_both w (boxTt a c T) (boxTt a' c' U)
  obtain ⟨p0, p1, p2, p3, p4, p5, p6, p7, p8, p9, p10, p11, p12⟩ := row_tt ra
  obtain ⟨q0, q1, q2, q3, q4, q5, q6, q7, q8, q9, q10, q11, q12⟩ := row_tt rb
  have B7 := Lib.hid b7
  have RA := Lib.hid ra
  have RB := Lib.hid rb
  have LA : Hid (w.heap.size < w7.heap.size) := Lib.hid (by omega)
  have LB : Hid (w.heap.size + 1 < w7.heap.size) := Lib.hid (by omega)
  have H := fun W (hW : Below w7.heap.size w7 W) => (h.below b7).below hW
  have H' := fun W (hW : Below w7.heap.size w7 W) => (h'.below b7).below hW
  have K0 := Lib.hid (fun W (hW : Below w7.heap.size w7 W) => rfew_any a c T W (H W hW))
  have K1 := Lib.hid (fun W (hW : Below w7.heap.size w7 W) => rfew_any a' c' U W (H' W hW))
  have K9 := Lib.hid (fun W (_ : Below w7.heap.size w7 W) => ex_any CK SZ W)
  have HB : Hid (Below w7.heap.size w7 w7) := Lib.hid (Below.refl _ _)
  have FE := Lib.hid (fun (f : fewT T = true) (f' : fewT U = true) W (hW : Below w7.heap.size w7 W) => EQ a a' c c' T U W f f' (H W hW) (H' W hW))
  have FS := Lib.hid (fun (f : fewT T = true) W (hW : Below w7.heap.size w7 W) => EQ a a c c T T W f f (H W hW) (H W hW))
  have FR := Lib.hid (fun (f : fewT T = true) W (hW : Below w7.heap.size w7 W) => rtte_any a a' c c' T U (few_iff.1 f).1 W (H W hW) (H' W hW))
  clear ra rb z7 b7 h h' H H'
  by_cases hf : fewT T = true
  case neg =>
    rw [Bool.not_eq_true] at hf
    rw [hf] at K0
    clear FE FS FR
    go_enter Tryz.func5, Tryz.ntmps5
    go_wp2_with fail
    refine (K0.out w7 HB.out).mono ?_
    rintro e w8 ⟨rfl, bw8⟩
    replace HB := Lib.hid (HB.out.trans (bw8.mono HB.out.size))
    clear bw8 p0 p1 p2 p3 p4 p5 p6 p7 p8 p9 p10 p11 p12 q0 q1 q2 q3 q4 q5 q6 q7 q8 q9 q10 q11 q12
    go_wp2_with fail
    refine (K9.out w8 HB.out).mono ?_
    rintro e w9 ⟨rfl, bw9⟩
    replace HB := Lib.hid (HB.out.trans (bw9.mono HB.out.size))
    clear bw9
    go_wp2_with fail
    go_ret
    exact ⟨rfl, B7.out.trans (HB.out.mono B7.out.size)⟩
  by_cases hf' : fewT U = true
  case neg =>
    rw [Bool.not_eq_true] at hf'
    rw [hf'] at K1
    rw [hf] at K0
    clear FE FS FR
    go_enter Tryz.func5, Tryz.ntmps5
    go_wp2_with fail
    refine (K0.out w7 HB.out).mono ?_
    rintro e w8 ⟨rfl, bw8⟩
    replace HB := Lib.hid (HB.out.trans (bw8.mono HB.out.size))
    clear bw8 p0 p1 p2 p3 p4 p5 p6 p7 p8 p9 p10 p11 p12 q0 q1 q2 q3 q4 q5 q6 q7 q8 q9 q10 q11 q12
    obtain ⟨p0, p1, p2, p3, p4, p5, p6, p7, p8, p9, p10, p11, p12⟩ := row_tt ((HB.out.block _ LA.out).trans RA.out)
    obtain ⟨q0, q1, q2, q3, q4, q5, q6, q7, q8, q9, q10, q11, q12⟩ := row_tt ((HB.out.block _ LB.out).trans RB.out)
    go_wp2_with fail
    refine (K1.out w8 HB.out).mono ?_
    rintro e w9 ⟨rfl, bw9⟩
    replace HB := Lib.hid (HB.out.trans (bw9.mono HB.out.size))
    clear bw9 p0 p1 p2 p3 p4 p5 p6 p7 p8 p9 p10 p11 p12 q0 q1 q2 q3 q4 q5 q6 q7 q8 q9 q10 q11 q12
    go_wp2_with fail
    refine (K9.out w9 HB.out).mono ?_
    rintro e w10 ⟨rfl, bw10⟩
    replace HB := Lib.hid (HB.out.trans (bw10.mono HB.out.size))
    clear bw10
    go_wp2_with fail
    go_ret
    exact ⟨rfl, B7.out.trans (HB.out.mono B7.out.size)⟩
  have K2 := Lib.hid (FE.out hf hf')
  have K3 := Lib.hid (FR.out hf)
  have K4 := Lib.hid (FS.out hf)
  rw [hf] at K0
  rw [hf'] at K1
  rw [eqT_refl] at K4
  obtain ⟨v, hv⟩ : ∃ q, eqT T U = q := ⟨_, rfl⟩
  rw [hv] at K2 K3
  have gv : (v == v) = true := by cases v <;> rfl
  clear FE FS FR hf hf' hv
  go_enter Tryz.func5, Tryz.ntmps5
  go_wp2_with fail
  refine (K0.out w7 HB.out).mono ?_
  rintro e w8 ⟨rfl, bw8⟩
  replace HB := Lib.hid (HB.out.trans (bw8.mono HB.out.size))
  clear bw8 p0 p1 p2 p3 p4 p5 p6 p7 p8 p9 p10 p11 p12 q0 q1 q2 q3 q4 q5 q6 q7 q8 q9 q10 q11 q12
  obtain ⟨p0, p1, p2, p3, p4, p5, p6, p7, p8, p9, p10, p11, p12⟩ := row_tt ((HB.out.block _ LA.out).trans RA.out)
  obtain ⟨q0, q1, q2, q3, q4, q5, q6, q7, q8, q9, q10, q11, q12⟩ := row_tt ((HB.out.block _ LB.out).trans RB.out)
  go_wp2_with fail
  refine (K1.out w8 HB.out).mono ?_
  rintro e w9 ⟨rfl, bw9⟩
  replace HB := Lib.hid (HB.out.trans (bw9.mono HB.out.size))
  clear bw9 p0 p1 p2 p3 p4 p5 p6 p7 p8 p9 p10 p11 p12 q0 q1 q2 q3 q4 q5 q6 q7 q8 q9 q10 q11 q12
  go_wp2_with fail
  refine wp_region_held_drew (S := fun W => Below w9.heap.size w9 W) (by kernel_rfl) ((Below.refl _ _).drew) (fun hHeld => ?_)
  have hB0 := Lib.hid hHeld
  refine takeH (i := 0) (v := ?_) 14 rfl rfl (by kernel_rfl) (by kernel_rfl) (by kernel_rfl) (fun _ _ _ h => h) (Or.inl ⟨by rfl, ?_⟩) (by assumption) ?_
  rotate_left 1
  · intro W hW
    obtain ⟨p0, p1, p2, p3, p4, p5, p6, p7, p8, p9, p10, p11, p12⟩ := row_tt (((HB.out.trans (hW.mono HB.out.size)).block _ LA.out).trans RA.out)
    go_simp
    try with_reducible rfl
  simp only [Act.put, List.setIfInBounds_toArray, List.set_cons_zero, List.set_cons_succ]
  refine takeH (i := 1) (v := ?_) 15 rfl rfl (by kernel_rfl) (by kernel_rfl) (by kernel_rfl) (fun _ _ _ h => h) (Or.inl ⟨by rfl, ?_⟩) (by assumption) ?_
  rotate_left 1
  · intro W hW
    obtain ⟨p0, p1, p2, p3, p4, p5, p6, p7, p8, p9, p10, p11, p12⟩ := row_tt (((HB.out.trans (hW.mono HB.out.size)).block _ LB.out).trans RB.out)
    go_simp
    try with_reducible rfl
  simp only [Act.put, List.setIfInBounds_toArray, List.set_cons_zero, List.set_cons_succ]
  refine takeH (i := 3) (v := ?_) 17 rfl rfl (by kernel_rfl) (by kernel_rfl) (by kernel_rfl) (fun _ _ _ h => h) (Or.inl ⟨by rfl, ?_⟩) (by assumption) ?_
  rotate_left 1
  · intro W hW
    obtain ⟨p0, p1, p2, p3, p4, p5, p6, p7, p8, p9, p10, p11, p12⟩ := row_tt (((HB.out.trans (hW.mono HB.out.size)).block _ LA.out).trans RA.out)
    go_simp
    try with_reducible rfl
  simp only [Act.put, List.setIfInBounds_toArray, List.set_cons_zero, List.set_cons_succ]
  refine takeH (i := 4) (v := ?_) 18 rfl rfl (by kernel_rfl) (by kernel_rfl) (by kernel_rfl) (fun _ _ _ h => h) (Or.inl ⟨by rfl, ?_⟩) (by assumption) ?_
  rotate_left 1
  · intro W hW
    obtain ⟨p0, p1, p2, p3, p4, p5, p6, p7, p8, p9, p10, p11, p12⟩ := row_tt (((HB.out.trans (hW.mono HB.out.size)).block _ LB.out).trans RB.out)
    go_simp
    try with_reducible rfl
  simp only [Act.put, List.setIfInBounds_toArray, List.set_cons_zero, List.set_cons_succ]
  refine wpAnyH_ready (rs := [2]) (by kernel_rfl) (by simp) ?_
  refine AllReadyH.cons rfl (fun K hK => ?_) AllReadyH.nil
  go_simp
  refine (K2.out _ (HB.out.trans (hB0.out.mono HB.out.size))).mono ?_
  rintro e x1 ⟨rfl, y1⟩
  have hB1 := Lib.hid (bel_on hB0.out y1)
  refine hK.out _ _ (hB1.out) (fun _ => ?_)
  clear hK K hHeld
  refine wpAnyH_behind (w := x1) (hB1.out) ?_
  have hHeld := Below.refl x1.heap.size x1
  refine wpAnyH_ready (rs := [5]) (by kernel_rfl) (by simp) ?_
  refine AllReadyH.cons rfl (fun K hK => ?_) AllReadyH.nil
  go_simp
  refine (K3.out _ (HB.out.trans (hB1.out.mono HB.out.size))).mono ?_
  rintro e x2 ⟨rfl, y2⟩
  have hB2 := Lib.hid (bel_on hB1.out y2)
  have hS2 := bel_on hHeld y2
  refine hK.out _ _ hS2 (fun _ => ?_)
  refine wpAnyH_behind (w := x2) hS2 ?_
  clear hK K hHeld hS2
  have hHeld := Below.refl x2.heap.size x2
  refine takeH (i := 6) (v := ?_) 20 rfl rfl (by kernel_rfl) (by kernel_rfl) (by kernel_rfl) (fun _ _ _ h => h) (Or.inl ⟨by rfl, ?_⟩) (by assumption) ?_
  rotate_left 1
  · intro W hW
    go_simp
    try with_reducible rfl
  simp only [Act.put, List.setIfInBounds_toArray, List.set_cons_zero, List.set_cons_succ]
  refine takeH (i := 7) (v := ?_) 21 rfl rfl (by kernel_rfl) (by kernel_rfl) (by kernel_rfl) (fun _ _ _ h => h) (Or.inl ⟨by rfl, ?_⟩) (by assumption) ?_
  rotate_left 1
  · intro W hW
    go_simp
    try with_reducible rfl
  simp only [Act.put, List.setIfInBounds_toArray, List.set_cons_zero, List.set_cons_succ]
  refine takeH (i := 8) (v := ?_) 22 rfl rfl (by kernel_rfl) (by kernel_rfl) (by kernel_rfl) (fun _ _ _ h => h) (Or.inl ⟨by rfl, ?_⟩) (by assumption) ?_
  rotate_left 1
  · intro W hW
    obtain ⟨p0, p1, p2, p3, p4, p5, p6, p7, p8, p9, p10, p11, p12⟩ := row_tt (((HB.out.trans ((hB2.out.trans (hW.mono hB2.out.size)).mono HB.out.size)).block _ LA.out).trans RA.out)
    go_simp
    try with_reducible rfl
  simp only [Act.put, List.setIfInBounds_toArray, List.set_cons_zero, List.set_cons_succ]
  refine takeH (i := 9) (v := ?_) 23 rfl rfl (by kernel_rfl) (by kernel_rfl) (by kernel_rfl) (fun _ _ _ h => h) (Or.inl ⟨by rfl, ?_⟩) (by assumption) ?_
  rotate_left 1
  · intro W hW
    obtain ⟨p0, p1, p2, p3, p4, p5, p6, p7, p8, p9, p10, p11, p12⟩ := row_tt (((HB.out.trans ((hB2.out.trans (hW.mono hB2.out.size)).mono HB.out.size)).block _ LA.out).trans RA.out)
    go_simp
    try with_reducible rfl
  simp only [Act.put, List.setIfInBounds_toArray, List.set_cons_zero, List.set_cons_succ]
  refine wpAnyH_ready (rs := [10]) (by kernel_rfl) (by simp) ?_
  refine AllReadyH.cons rfl (fun K hK => ?_) AllReadyH.nil
  go_simp
  refine (K4.out _ (HB.out.trans (hB2.out.mono HB.out.size))).mono ?_
  rintro e x3 ⟨rfl, y3⟩
  have hB3 := Lib.hid (bel_on hB2.out y3)
  have hS3 := bel_on hHeld y3
  refine hK.out _ _ hS3 (fun _ => ?_)
  refine wpAnyH_behind (w := x3) hS3 ?_
  clear hK K hHeld hS3
  have hHeld := Below.refl x3.heap.size x3
  refine takeH (i := 11) (v := ?_) 25 rfl rfl (by kernel_rfl) (by kernel_rfl) (by kernel_rfl) (fun _ _ _ h => h) (Or.inl ⟨by rfl, ?_⟩) (by assumption) ?_
  rotate_left 1
  · intro W hW
    go_simp
    try with_reducible rfl
  simp only [Act.put, List.setIfInBounds_toArray, List.set_cons_zero, List.set_cons_succ]
  refine takeH (i := 12) (v := ?_) 26 rfl rfl (by kernel_rfl) (by kernel_rfl) (by kernel_rfl) (fun _ _ _ h => h) (Or.inl ⟨by rfl, ?_⟩) (by assumption) ?_
  rotate_left 1
  · intro W hW
    go_simp
    try with_reducible rfl
  simp only [Act.put, List.setIfInBounds_toArray, List.set_cons_zero, List.set_cons_succ]
  refine wpAnyH_ready (rs := [13]) (by kernel_rfl) (by simp) ?_
  refine AllReadyH.cons rfl (fun K hK => ?_) AllReadyH.nil
  go_simp
  refine (K9.out _ (HB.out.trans (hB3.out.mono HB.out.size))).mono ?_
  rintro e x4 ⟨rfl, y4⟩
  have hB4 := Lib.hid (bel_on hB3.out y4)
  have hS4 := bel_on hHeld y4
  refine hK.out _ _ hS4 (fun _ => ?_)
  refine wpAnyH_behind (w := x4) hS4 ?_
  clear hK K hHeld hS4
  have hHeld := Below.refl x4.heap.size x4
  refine takeH (i := 14) (v := ?_) 28 rfl rfl (by kernel_rfl) (by kernel_rfl) (by kernel_rfl) (fun _ _ _ h => h) (Or.inl ⟨by rfl, ?_⟩) (by assumption) ?_
  rotate_left 1
  · intro W hW
    go_simp
    try with_reducible rfl
  simp only [Act.put, List.setIfInBounds_toArray, List.set_cons_zero, List.set_cons_succ]
  refine takeH (i := 15) (v := ?_) 4 rfl rfl (by kernel_rfl) (by kernel_rfl) (by kernel_rfl) (fun _ _ _ h => h) (Or.inl ⟨by rfl, ?_⟩) (by assumption) ?_
  rotate_left 1
  · intro W hW
    go_simp
    try with_reducible rfl
  simp only [Act.put, List.setIfInBounds_toArray, List.set_cons_zero, List.set_cons_succ]
  refine wpAnyH_done (by kernel_rfl) ?_ _
  have HB := Lib.hid (HB.out.trans (hB4.out.mono HB.out.size))
  go_wp2_with fail
  go_ret
  exact ⟨rfl, B7.out.trans (HB.out.mono B7.out.size)⟩
end Go.Proofs.YtkhalnjgbdpfhaaGreat
