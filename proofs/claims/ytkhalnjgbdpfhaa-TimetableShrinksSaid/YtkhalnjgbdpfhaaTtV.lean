/-
  The law TimetableParts, from what the program's Check and Sizes answer: it answers true for every input; nothing that existed before the call has changed behind it. Condition: lengths of 63 bits.
-/
import Derived.Test.YtkhalnjgbdpfhaaTtU
namespace Go.Proofs.Ytkhalnjgbdpfhaa
open Go.RowKit

theorem parts_iff (T : Tt) : (ttC T).2.2 = 0 ↔ upT T = true ∧ loT T = true := by
  rw [ttC_all]
  unfold upT loT
  rw [decide_eq_true_iff, decide_eq_true_iff]
  constructor
  · intro h
    exact ⟨⟨h 0 (by omega), h 1 (by omega), h 2 (by omega), h 3 (by omega), h 4 (by omega)⟩, h 5 (by omega), h 6 (by omega), h 7 (by omega), h 8 (by omega), h 9 (by omega)⟩
  · rintro ⟨⟨h0, h1, h2, h3, h4⟩, h5, h6, h7, h8, h9⟩ j hj
    match j, hj with
    | 0, _ => exact h0
    | 1, _ => exact h1
    | 2, _ => exact h2
    | 3, _ => exact h3
    | 4, _ => exact h4
    | 5, _ => exact h5
    | 6, _ => exact h6
    | 7, _ => exact h7
    | 8, _ => exact h8
    | 9, _ => exact h9
set_option maxRecDepth 100000 in
set_option maxHeartbeats 4000000 in
theorem parts_law (CK : CkC) (SZ : SzC) (a : Nat → Option Addr) (c : Nat → Nat) (T : Tt) (ln : LnTt T) (ok : OkTt T) (w : World) (h : TtL w a c T) : Calls Try.prog 4 #[ttV a c T] w fun e w' => e = .returned (.bool true) ∧ Below w.heap.size w w' := by
  obtain ⟨w7, hw7⟩ : ∃ W, w.alloc (boxTt a c T) = W := ⟨_, rfl⟩
  obtain ⟨b7, s7, c7⟩ := box_tt hw7
  obtain ⟨p0, p1, p2, p3, p4, p5, p6, p7, p8, p9, p10, p11, p12⟩ := row_tt c7
  have B7 := Lib.hid b7
  have C7 := Lib.hid c7
  have LA : Hid (w.heap.size < w7.heap.size) := Lib.hid s7
  have H := Lib.hid (fun W (hW : Below w7.heap.size w7 W) => (h.below b7).below hW)
  have K0 := Lib.hid (fun W (hW : Below w7.heap.size w7 W) => rfew_any a c T W (H.out W hW))
  have K9 := Lib.hid (fun W (_ : Below w7.heap.size w7 W) => ex_any CK SZ W)
  have HB : Hid (Below w7.heap.size w7 w7) := Lib.hid (Below.refl _ _)
  clear c7 s7 b7 h
  by_cases hf : fewT T = true
  case neg =>
    rw [Bool.not_eq_true] at hf
    rw [hf] at K0
    clear H
    go_enter Try.func4, Try.ntmps4
    go_wp2_with fail
    refine (K0.out w7 HB.out).mono ?_
    rintro e w8 ⟨rfl, bw8⟩
    replace HB := Lib.hid (HB.out.trans (bw8.mono HB.out.size))
    clear bw8 p0 p1 p2 p3 p4 p5 p6 p7 p8 p9 p10 p11 p12
    go_wp2_with fail
    refine (K9.out w8 HB.out).mono ?_
    rintro e w9 ⟨rfl, bw9⟩
    replace HB := Lib.hid (HB.out.trans (bw9.mono HB.out.size))
    clear bw9
    go_wp2_with fail
    go_ret
    exact ⟨rfl, B7.out.trans (HB.out.mono B7.out.size)⟩
  have K1 := Lib.hid (fun W (hW : Below w7.heap.size w7 W) => CK a c T W hf ok ln (H.out W hW))
  have K2 := Lib.hid (fun W (hW : Below w7.heap.size w7 W) => up_any a c T hf ok W (H.out W hW))
  have K3 := Lib.hid (fun W (hW : Below w7.heap.size w7 W) => lo_any a c T hf ok W (H.out W hW))
  rw [hf] at K0
  have hi := parts_iff T
  obtain ⟨⟨x, y, z⟩, hq⟩ : ∃ q, ttC T = q := ⟨_, rfl⟩
  rw [hq] at K1 hi
  obtain ⟨u, hu⟩ : ∃ q, upT T = q := ⟨_, rfl⟩
  obtain ⟨l, hl⟩ : ∃ q, loT T = q := ⟨_, rfl⟩
  rw [hu] at K2 hi
  rw [hl] at K3 hi
  clear hf hq hu hl H
  cases u
  · have gz : (z == 0) = false := by simpa using hi
    clear hi K3
    go_enter Try.func4, Try.ntmps4
    go_wp2_with fail
    refine (K0.out w7 HB.out).mono ?_
    rintro e w8 ⟨rfl, bw8⟩
    replace HB := Lib.hid (HB.out.trans (bw8.mono HB.out.size))
    clear bw8 p0 p1 p2 p3 p4 p5 p6 p7 p8 p9 p10 p11 p12
    obtain ⟨p0, p1, p2, p3, p4, p5, p6, p7, p8, p9, p10, p11, p12⟩ := row_tt ((HB.out.block _ LA.out).trans C7.out)
    go_wp2_with fail
    refine (K1.out w8 HB.out).mono ?_
    rintro e w9 ⟨rfl, bw9⟩
    replace HB := Lib.hid (HB.out.trans (bw9.mono HB.out.size))
    clear bw9 p0 p1 p2 p3 p4 p5 p6 p7 p8 p9 p10 p11 p12
    obtain ⟨p0, p1, p2, p3, p4, p5, p6, p7, p8, p9, p10, p11, p12⟩ := row_tt ((HB.out.block _ LA.out).trans C7.out)
    go_wp2_with fail
    refine (K2.out w9 HB.out).mono ?_
    rintro e w10 ⟨rfl, bw10⟩
    replace HB := Lib.hid (HB.out.trans (bw10.mono HB.out.size))
    clear bw10 p0 p1 p2 p3 p4 p5 p6 p7 p8 p9 p10 p11 p12
    obtain ⟨p0, p1, p2, p3, p4, p5, p6, p7, p8, p9, p10, p11, p12⟩ := row_tt ((HB.out.block _ LA.out).trans C7.out)
    go_wp2_with fail
    refine (K9.out w10 HB.out).mono ?_
    rintro e w11 ⟨rfl, bw11⟩
    replace HB := Lib.hid (HB.out.trans (bw11.mono HB.out.size))
    clear bw11 p0 p1 p2 p3 p4 p5 p6 p7 p8 p9 p10 p11 p12
    go_wp2_with fail
    go_ret
    exact ⟨rfl, B7.out.trans (HB.out.mono B7.out.size)⟩
  cases l
  · have gz : (z == 0) = false := by simpa using hi
    clear hi
    go_enter Try.func4, Try.ntmps4
    go_wp2_with fail
    refine (K0.out w7 HB.out).mono ?_
    rintro e w8 ⟨rfl, bw8⟩
    replace HB := Lib.hid (HB.out.trans (bw8.mono HB.out.size))
    clear bw8 p0 p1 p2 p3 p4 p5 p6 p7 p8 p9 p10 p11 p12
    obtain ⟨p0, p1, p2, p3, p4, p5, p6, p7, p8, p9, p10, p11, p12⟩ := row_tt ((HB.out.block _ LA.out).trans C7.out)
    go_wp2_with fail
    refine (K1.out w8 HB.out).mono ?_
    rintro e w9 ⟨rfl, bw9⟩
    replace HB := Lib.hid (HB.out.trans (bw9.mono HB.out.size))
    clear bw9 p0 p1 p2 p3 p4 p5 p6 p7 p8 p9 p10 p11 p12
    obtain ⟨p0, p1, p2, p3, p4, p5, p6, p7, p8, p9, p10, p11, p12⟩ := row_tt ((HB.out.block _ LA.out).trans C7.out)
    go_wp2_with fail
    refine (K2.out w9 HB.out).mono ?_
    rintro e w10 ⟨rfl, bw10⟩
    replace HB := Lib.hid (HB.out.trans (bw10.mono HB.out.size))
    clear bw10 p0 p1 p2 p3 p4 p5 p6 p7 p8 p9 p10 p11 p12
    obtain ⟨p0, p1, p2, p3, p4, p5, p6, p7, p8, p9, p10, p11, p12⟩ := row_tt ((HB.out.block _ LA.out).trans C7.out)
    go_wp2_with fail
    refine (K3.out w10 HB.out).mono ?_
    rintro e w11 ⟨rfl, bw11⟩
    replace HB := Lib.hid (HB.out.trans (bw11.mono HB.out.size))
    clear bw11 p0 p1 p2 p3 p4 p5 p6 p7 p8 p9 p10 p11 p12
    obtain ⟨p0, p1, p2, p3, p4, p5, p6, p7, p8, p9, p10, p11, p12⟩ := row_tt ((HB.out.block _ LA.out).trans C7.out)
    go_wp2_with fail
    refine (K9.out w11 HB.out).mono ?_
    rintro e w12 ⟨rfl, bw12⟩
    replace HB := Lib.hid (HB.out.trans (bw12.mono HB.out.size))
    clear bw12 p0 p1 p2 p3 p4 p5 p6 p7 p8 p9 p10 p11 p12
    go_wp2_with fail
    go_ret
    exact ⟨rfl, B7.out.trans (HB.out.mono B7.out.size)⟩
  have gz : (z == 0) = true := by simpa using hi
  clear hi
  go_enter Try.func4, Try.ntmps4
  go_wp2_with fail
  refine (K0.out w7 HB.out).mono ?_
  rintro e w8 ⟨rfl, bw8⟩
  replace HB := Lib.hid (HB.out.trans (bw8.mono HB.out.size))
  clear bw8 p0 p1 p2 p3 p4 p5 p6 p7 p8 p9 p10 p11 p12
  obtain ⟨p0, p1, p2, p3, p4, p5, p6, p7, p8, p9, p10, p11, p12⟩ := row_tt ((HB.out.block _ LA.out).trans C7.out)
  go_wp2_with fail
  refine (K1.out w8 HB.out).mono ?_
  rintro e w9 ⟨rfl, bw9⟩
  replace HB := Lib.hid (HB.out.trans (bw9.mono HB.out.size))
  clear bw9 p0 p1 p2 p3 p4 p5 p6 p7 p8 p9 p10 p11 p12
  obtain ⟨p0, p1, p2, p3, p4, p5, p6, p7, p8, p9, p10, p11, p12⟩ := row_tt ((HB.out.block _ LA.out).trans C7.out)
  go_wp2_with fail
  refine (K2.out w9 HB.out).mono ?_
  rintro e w10 ⟨rfl, bw10⟩
  replace HB := Lib.hid (HB.out.trans (bw10.mono HB.out.size))
  clear bw10 p0 p1 p2 p3 p4 p5 p6 p7 p8 p9 p10 p11 p12
  obtain ⟨p0, p1, p2, p3, p4, p5, p6, p7, p8, p9, p10, p11, p12⟩ := row_tt ((HB.out.block _ LA.out).trans C7.out)
  go_wp2_with fail
  refine (K3.out w10 HB.out).mono ?_
  rintro e w11 ⟨rfl, bw11⟩
  replace HB := Lib.hid (HB.out.trans (bw11.mono HB.out.size))
  clear bw11 p0 p1 p2 p3 p4 p5 p6 p7 p8 p9 p10 p11 p12
  obtain ⟨p0, p1, p2, p3, p4, p5, p6, p7, p8, p9, p10, p11, p12⟩ := row_tt ((HB.out.block _ LA.out).trans C7.out)
  go_wp2_with fail
  refine (K9.out w11 HB.out).mono ?_
  rintro e w12 ⟨rfl, bw12⟩
  replace HB := Lib.hid (HB.out.trans (bw12.mono HB.out.size))
  clear bw12 p0 p1 p2 p3 p4 p5 p6 p7 p8 p9 p10 p11 p12
  go_wp2_with fail
  go_ret
  exact ⟨rfl, B7.out.trans (HB.out.mono B7.out.size)⟩
end Go.Proofs.Ytkhalnjgbdpfhaa
