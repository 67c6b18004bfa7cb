/-
  The law ChecksumDetects: true for every input, nothing that existed has changed. Condition: none beyond the theorem's own hypotheses.
-/
import Derived.Test.YtkadgmihaccogaaCLaw3
namespace Go.Proofs.Ytkadgmihaccogaa
open Go.RowKit

set_option maxHeartbeats 2000000 in
set_option maxRecDepth 10000 in
theorem detects_law (v : Value) (l : List UInt8) (hl : l.length ≤ 9223372036854775807) (n : Int) (p : Nat) (hp : p < 4294967296) (w : World) (h : LstB w v l) : Calls Try.prog 8 #[v, .int .i64 n, .int .u32 (p : Int)] w fun e w' => e = .returned (.bool true) ∧ Below w.heap.size w w' := by
  have X := Lib.hid (fun W => ex_any W)
  by_cases g1 : 4096 < l.length
  · obtain ⟨A, c, rfl, -⟩ := h
    have g : (4096 : Int) < (l.length : Int) := by omega
    clear g1
    go_enter Try.func8, Try.ntmps8
    go_wp2_with fail
    refine (X.out _).mono ?_
    rintro e w1 ⟨rfl, b1⟩
    go_wp2_with fail
    go_ret
    exact ⟨rfl, b1⟩
  have d1 : decide ((4096 : Int) < (l.length : Int)) = false := by simp; omega
  by_cases g2 : n < 0
  · obtain ⟨A, c, rfl, -⟩ := h
    clear g1
    go_enter Try.func8, Try.ntmps8
    go_wp2_with fail
    refine (X.out _).mono ?_
    rintro e w1 ⟨rfl, b1⟩
    go_wp2_with fail
    go_ret
    exact ⟨rfl, b1⟩
  have d2 : decide (n < 0) = false := decide_eq_false g2
  by_cases g3 : 32768 < n
  · obtain ⟨A, c, rfl, -⟩ := h
    clear g1 g2
    go_enter Try.func8, Try.ntmps8
    go_wp2_with fail
    refine (X.out _).mono ?_
    rintro e w1 ⟨rfl, b1⟩
    go_wp2_with fail
    go_ret
    exact ⟨rfl, b1⟩
  have d3 : decide ((32768 : Int) < n) = false := decide_eq_false g3
  by_cases g4 : p = 0
  · obtain ⟨A, c, rfl, -⟩ := h
    subst g4
    clear g1 g2 g3
    go_enter Try.func8, Try.ntmps8
    go_wp2_with fail
    refine (X.out _).mono ?_
    rintro e w1 ⟨rfl, b1⟩
    go_wp2_with fail
    go_ret
    exact ⟨rfl, b1⟩
  have d4 : ((p : Int) == 0) = false := beq_false (by omega)
  obtain ⟨a, rfl⟩ : ∃ a : Nat, n = a := ⟨n.toNat, by omega⟩
  have F := Lib.hid (flip_any v l (by omega) a p (by omega) hp w h)
  have M := Lib.hid (fun W (hb : Below w.heap.size w W) => append_any v l (by omega) W (h.below hb))
  have hs4 := sealL_length l
  have hm4 : (flipN l a p 32).length = l.length := flipN_length l a p 32
  have gl : (l.length : Int) ≤ 4096 := by omega
  have L4 : l.length ≤ 4096 := by omega
  have OP := Lib.hid (fun hf => opens_burst l a p hp g4 hf)
  have DR : (sealL l).drop l.length = be4 (crc l) := by unfold sealL; exact List.drop_left
  have B4 : (be4 (crc l)).length = 4 := rfl
  obtain ⟨A, c, rfl, -⟩ := h
  have HS := Lib.hid hs4
  have HM := Lib.hid hm4
  have HDR := Lib.hid DR
  have HB4 := Lib.hid B4
  have HL4 := Lib.hid L4
  generalize flipN l a p 32 = t at F OP HM
  generalize be4 (crc l) = q at OP HDR HB4
  generalize sealL l = s at M HS HDR
  clear g1 g2 g3 g4 hs4 hm4 hp DR B4 L4
  go_enter Try.func8, Try.ntmps8
  go_wp2_with fail
  refine F.out.mono ?_
  rintro e w1 ⟨(⟨cap, rfl, hF, hfit⟩ | ⟨rfl, -⟩), b1⟩
  · have HF := Lib.hid hF
    have FT := Lib.hid hfit
    clear F hF hfit
    go_wp2_with fail
    refine (M.out w1 b1).mono ?_
    rintro e w2 ⟨u2, rfl, o2, k2⟩
    have b2 : Below w.heap.size w w2 := b1.trans (k2.mono b1.size)
    obtain ⟨y, S2, hy⟩ := bts_from o2.lst l.length (by rw [HS.out]; omega) (l.length : Int) rfl
    rw [HDR.out] at hy
    obtain ⟨A2, c2, rfl⟩ := own_shape' o2
    rw [HS.out] at S2 ⊢
    have HF2 : Hid (HasF w2 w.heap.size cap t) := ⟨HF.out.1, (k2.block w.heap.size HF.out.lt).trans HF.out.2⟩
    have HY := Lib.hid hy
    have B2 := Lib.hid b2
    clear k2 b1 o2 hy HF b2
    go_wp2_with (at_builtin; (refine app_frz _ rfl _ _ rfl w.heap.size cap l.length t q HM.out rfl HF2.out _ rfl HY.out (by rw [HB4.out]; decide) w.heap.size (Nat.le_refl _) (by rw [HM.out, HB4.out]; have := HL4.out; omega) ?_); intro v3 w3 h3 k3; have H3 := Lib.hid h3; have B3 := Lib.hid (B2.out.trans k3); clear h3 k3)
    have hlen : (t ++ q).length = l.length + 4 := by rw [List.length_append, HM.out, HB4.out]
    have V := Lib.hid (verify_any v3 (t ++ q) (by rw [hlen]; have := HL4.out; omega) w3 H3.out)
    rw [(ver_no (by rw [hlen]; omega) (OP.out FT.out)).1, (ver_no (by rw [hlen]; omega) (OP.out FT.out)).2] at V
    clear hlen
    refine V.out.mono ?_
    rintro e w4 ⟨u4, rfl, -, k4⟩
    have b4 : Below w.heap.size w w4 := B3.out.trans (k4.mono B3.out.size)
    clear k4
    go_wp2_with fail
    refine (rel (W := w) (X.out w4) b4).mono ?_
    rintro e w5 ⟨rfl, b5⟩
    go_wp2_with fail
    go_ret
    exact ⟨rfl, b5⟩
  · clear F OP
    go_wp2_with fail
    refine (M.out w1 b1).mono ?_
    rintro e w2 ⟨u2, rfl, o2, k2⟩
    have b2 : Below w.heap.size w w2 := b1.trans (k2.mono b1.size)
    obtain ⟨A2, c2, rfl⟩ := own_shape' o2
    rw [HS.out]
    clear k2 b1 o2
    go_wp2_with fail
    refine (rel (W := w) (X.out w2) b2).mono ?_
    rintro e w3 ⟨rfl, b3⟩
    go_wp2_with fail
    go_ret
    exact ⟨rfl, b3⟩
end Go.Proofs.Ytkadgmihaccogaa
