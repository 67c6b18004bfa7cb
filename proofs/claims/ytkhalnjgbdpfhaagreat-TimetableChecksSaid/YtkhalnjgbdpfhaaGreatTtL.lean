/-
  The law TimetableChecks, from what the program's Check and Sizes answer: it answers true for every input; nothing that existed before the call has changed behind it. Condition: lengths of 63 bits.
-/
import Derived.Test.YtkhalnjgbdpfhaaGreatTtX
import Derived.Test.YtkhalnjgbdpfhaaGreatTtR
namespace Go.Proofs.YtkhalnjgbdpfhaaGreat
open Go.RowKit

set_option maxRecDepth 100000 in
set_option maxHeartbeats 4000000 in
theorem checks_law (CK : CkC) (SZ : SzC) (a : Nat → Option Addr) (c : Nat → Nat) (T : Tt) (ln : LnTt T) (ok : OkTt T) (w : World) (h : TtL w a c T) : Calls Tryz.prog 3 #[ttV a c T] w fun e w' => e = .returned (.bool true) ∧ Below w.heap.size w w' := by
  obtain ⟨w7, hw7⟩ : ∃ W, w.alloc (boxTt a c T) = W := ⟨_, rfl⟩
  obtain ⟨b7, s7, c7⟩ := box_tt hw7
  obtain ⟨p0, p1, p2, p3, p4, p5, p6, p7, p8, p9, p10, p11, p12⟩ := row_tt c7
  have B7 := Lib.hid b7
  have C7 := Lib.hid c7
  have LA : Hid (w.heap.size < w7.heap.size) := Lib.hid s7
  have H := fun W (hW : Below w7.heap.size w7 W) => (h.below b7).below hW
  have K0 := Lib.hid (fun W (hW : Below w7.heap.size w7 W) => rfew_any a c T W (H W hW))
  have K9 := Lib.hid (fun W (_ : Below w7.heap.size w7 W) => ex_any CK SZ W)
  have HB : Hid (Below w7.heap.size w7 w7) := Lib.hid (Below.refl _ _)
  have FW := Lib.hid (fun (f : fewT T = true) W (hW : Below w7.heap.size w7 W) => CK a c T W f ok ln (H W hW))
  have FR := Lib.hid (fun (f : fewT T = true) W (hW : Below w7.heap.size w7 W) => rttc_any a c T f W (H W hW))
  clear c7 s7 b7 h H
  by_cases hf : fewT T = true
  case neg =>
    rw [Bool.not_eq_true] at hf
    rw [hf] at K0
    clear FW FR
    go_enter Tryz.func3, Tryz.ntmps3
    go_wp2_with fail
    refine (K0.out w7 (HB.out)).mono ?_
    rintro e w8 ⟨rfl, bw8⟩
    replace HB := Lib.hid (HB.out.trans (bw8.mono HB.out.size))
    clear bw8 p0 p1 p2 p3 p4 p5 p6 p7 p8 p9 p10 p11 p12
    go_wp2_with fail
    refine (K9.out w8 (HB.out)).mono ?_
    rintro e w9 ⟨rfl, bw9⟩
    replace HB := Lib.hid (HB.out.trans (bw9.mono HB.out.size))
    clear bw9
    go_wp2_with fail
    go_ret
    exact ⟨rfl, B7.out.trans (HB.out.mono B7.out.size)⟩
  have K1 := Lib.hid (FW.out hf)
  have K2 := Lib.hid (FR.out hf)
  rw [hf] at K0
  obtain ⟨⟨x, y, z⟩, hq⟩ : ∃ q, ttC T = q := ⟨_, rfl⟩
  rw [hq] at K1 K2
  have g0 : (x == x) = true := beq_true rfl
  have g1 : (y == y) = true := beq_true rfl
  have g2 : (z == z) = true := beq_true rfl
  clear FW FR hf hq
  go_enter Tryz.func3, Tryz.ntmps3
  go_wp2_with fail
  refine (K0.out w7 (HB.out)).mono ?_
  rintro e w8 ⟨rfl, bw8⟩
  replace HB := Lib.hid (HB.out.trans (bw8.mono HB.out.size))
  clear bw8 p0 p1 p2 p3 p4 p5 p6 p7 p8 p9 p10 p11 p12
  obtain ⟨p0, p1, p2, p3, p4, p5, p6, p7, p8, p9, p10, p11, p12⟩ := row_tt ((HB.out.block _ LA.out).trans C7.out)
  go_wp2_with fail
  refine (K1.out w8 (HB.out)).mono ?_
  rintro e w9 ⟨rfl, bw9⟩
  replace HB := Lib.hid (HB.out.trans (bw9.mono HB.out.size))
  clear bw9 p0 p1 p2 p3 p4 p5 p6 p7 p8 p9 p10 p11 p12
  obtain ⟨p0, p1, p2, p3, p4, p5, p6, p7, p8, p9, p10, p11, p12⟩ := row_tt ((HB.out.block _ LA.out).trans C7.out)
  go_wp2_with fail
  refine (K2.out w9 (HB.out)).mono ?_
  rintro e w10 ⟨rfl, bw10⟩
  replace HB := Lib.hid (HB.out.trans (bw10.mono HB.out.size))
  clear bw10 p0 p1 p2 p3 p4 p5 p6 p7 p8 p9 p10 p11 p12
  go_wp2_with fail
  refine (K9.out w10 (HB.out)).mono ?_
  rintro e w11 ⟨rfl, bw11⟩
  replace HB := Lib.hid (HB.out.trans (bw11.mono HB.out.size))
  clear bw11
  go_wp2_with fail
  go_ret
  exact ⟨rfl, B7.out.trans (HB.out.mono B7.out.size)⟩
end Go.Proofs.YtkhalnjgbdpfhaaGreat
