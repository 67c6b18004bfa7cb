/-
  The laws ChecksumLinear, ChecksumAppends, ChecksumVerifies: true for every input, nothing that existed has changed. Condition: none beyond each theorem's own hypotheses.
-/
import Derived.Test.YtkadgmihaccogaaCLaw
namespace Go.Proofs.Ytkadgmihaccogaa
open Go.RowKit

set_option maxHeartbeats 1000000 in
theorem linear_law (u : Value) (a : List UInt8) (ha : a.length ≤ 9223372036854775807) (v : Value) (b : List UInt8) (hb : b.length ≤ 9223372036854775807) (x : Value) (c : List UInt8) (hc : c.length ≤ 9223372036854775807) (w : World) (h1 : LstB w u a) (h2 : LstB w v b) (h3 : LstB w x c) : Calls Try.prog 10 #[u, v, x] w fun e w' => e = .returned (.bool true) ∧ Below w.heap.size w w' := by
  have X := Lib.hid (fun W => ex_any W)
  by_cases g1 : 4096 < a.length
  · obtain ⟨A, c1, rfl, -⟩ := h1
    obtain ⟨A', c2, rfl, -⟩ := h2
    obtain ⟨A'', c3, rfl, -⟩ := h3
    have g : (4096 : Int) < (a.length : Int) := by omega
    clear g1
    go_enter Try.func10, Try.ntmps10
    go_wp2_with fail
    refine (X.out _).mono ?_
    rintro e w1 ⟨rfl, b1⟩
    go_wp2_with fail
    go_ret
    exact ⟨rfl, b1⟩
  have d1 : decide ((4096 : Int) < (a.length : Int)) = false := by simp; omega
  by_cases g2 : b.length = a.length
  · by_cases g3 : c.length = a.length
    · have M := Lib.hid (xor_any u v x a b c (by omega) g2 g3 w h1 h2 h3)
      have C0 := Lib.hid (fun y W (hy : LstB W y (xorL a b c)) => crc_any y (xorL a b c) (by rw [xorL_length a b c g2 g3]; exact ha) W hy)
      have C1 := Lib.hid (fun W (hw : Below w.heap.size w W) => crc_any u a ha W (h1.below hw))
      have C2 := Lib.hid (fun W (hw : Below w.heap.size w W) => crc_any v b hb W (h2.below hw))
      have C3 := Lib.hid (fun W (hw : Below w.heap.size w W) => crc_any x c hc W (h3.below hw))
      rw [crc_linear a b c g2 g3] at C0
      have q1 := u32_xor_nat (crc a) (crc b) (crc_lt a) (crc_lt b)
      have q2 := u32_xor_nat (crc a ^^^ crc b) (crc c) (xor_lt (crc_lt a) (crc_lt b)) (crc_lt c)
      obtain ⟨A, c1, rfl, -⟩ := h1
      obtain ⟨A', c2, rfl, -⟩ := h2
      obtain ⟨A'', c3, rfl, -⟩ := h3
      have e2 : ((b.length : Int) != (a.length : Int)) = false := neq_false (by omega)
      have e3 : ((c.length : Int) != (a.length : Int)) = false := neq_false (by omega)
      rw [g2] at M C2
      rw [g3] at M C3
      rw [g2, g3]
      have d2 : ((a.length : Int) != (a.length : Int)) = false := neq_false rfl
      generalize crc a ^^^ crc b ^^^ crc c = r at C0 q2
      generalize crc a ^^^ crc b = r2 at q1 q2
      generalize crc a = ra at C1 q1
      generalize crc b = rb at C2 q1
      generalize crc c = rc at C3 q2
      clear g1 g2 g3 e2 e3
      go_enter Try.func10, Try.ntmps10
      go_wp2_with fail
      refine M.out.mono ?_
      rintro e w1 ⟨y, rfl, o1, b1⟩
      have K := Lib.hid (C0.out y w1 o1.lst)
      clear o1 C0
      go_wp2_with fail
      refine K.out.mono ?_
      rintro e w2 ⟨rfl, k2⟩
      have b2 : Below w.heap.size w w2 := b1.trans (k2.mono b1.size)
      clear K k2 b1
      go_wp2_with fail
      refine (C1.out w2 b2).mono ?_
      rintro e w3 ⟨rfl, k3⟩
      have b3 : Below w.heap.size w w3 := b2.trans (k3.mono b2.size)
      clear k3 b2
      go_wp2_with fail
      refine (C2.out w3 b3).mono ?_
      rintro e w4 ⟨rfl, k4⟩
      have b4 : Below w.heap.size w w4 := b3.trans (k4.mono b3.size)
      clear k4 b3
      go_wp2_with fail
      refine (C3.out w4 b4).mono ?_
      rintro e w5 ⟨rfl, k5⟩
      have b5 : Below w.heap.size w w5 := b4.trans (k5.mono b4.size)
      clear k5 b4
      go_wp2_with fail
      refine (rel (W := w) (X.out w5) b5).mono ?_
      rintro e w6 ⟨rfl, b6⟩
      go_wp2_with fail
      go_ret
      exact ⟨rfl, b6⟩
    · obtain ⟨A, c1, rfl, -⟩ := h1
      obtain ⟨A', c2, rfl, -⟩ := h2
      obtain ⟨A'', c3, rfl, -⟩ := h3
      rw [g2]
      have d2 : ((a.length : Int) != (a.length : Int)) = false := neq_false rfl
      have d3 : ((c.length : Int) != (a.length : Int)) = true := bne_true (by omega)
      clear g1 g2 g3
      go_enter Try.func10, Try.ntmps10
      go_wp2_with fail
      refine (X.out _).mono ?_
      rintro e w1 ⟨rfl, b1⟩
      go_wp2_with fail
      go_ret
      exact ⟨rfl, b1⟩
  · obtain ⟨A, c1, rfl, -⟩ := h1
    obtain ⟨A', c2, rfl, -⟩ := h2
    obtain ⟨A'', c3, rfl, -⟩ := h3
    have d2 : ((b.length : Int) != (a.length : Int)) = true := bne_true (by omega)
    clear g1 g2
    go_enter Try.func10, Try.ntmps10
    go_wp2_with fail
    refine (X.out _).mono ?_
    rintro e w1 ⟨rfl, b1⟩
    go_wp2_with fail
    go_ret
    exact ⟨rfl, b1⟩
theorem ver_seal (l : List UInt8) : verE (sealL l) = 0 ∧ verL (sealL l) = l := by
  have h : ¬ (sealL l).length < 4 := by rw [sealL_length]; omega
  obtain ⟨h1, h2⟩ := ver_good h (opens_seal l)
  refine ⟨h1, ?_⟩
  rw [h2, sealL_length, Nat.add_sub_cancel, sealL_take]
set_option maxHeartbeats 1000000 in
theorem appends_law (v : Value) (l : List UInt8) (hl : l.length ≤ 9223372036854775807) (w : World) (h : LstB w v l) : Calls Try.prog 6 #[v] w fun e w' => e = .returned (.bool true) ∧ Below w.heap.size w w' := by
  have X := Lib.hid (fun W => ex_any W)
  by_cases g1 : 16384 < l.length
  · obtain ⟨A, c, rfl, -⟩ := h
    have g : (16384 : Int) < (l.length : Int) := by omega
    clear g1
    go_enter Try.func6, Try.ntmps6
    go_wp2_with fail
    refine (X.out _).mono ?_
    rintro e w1 ⟨rfl, b1⟩
    go_wp2_with fail
    go_ret
    exact ⟨rfl, b1⟩
  have d1 : decide ((16384 : Int) < (l.length : Int)) = false := by simp; omega
  have M := Lib.hid (append_any v l (by omega) w h)
  have V := Lib.hid (fun u W (hu : LstB W u (sealL l)) => verify_any u (sealL l) (by rw [sealL_length]; omega) W hu)
  rw [(ver_seal l).1, (ver_seal l).2] at V
  have R := Lib.hid (fun W (hb : Below w.heap.size w W) => rappend_any v l (by omega) W (h.below hb))
  have H := Lib.hid h
  obtain ⟨A, c, rfl, -⟩ := h
  generalize sealL l = s at M V R
  clear g1
  go_enter Try.func6, Try.ntmps6
  go_wp2_with fail
  refine M.out.mono ?_
  rintro e w1 ⟨u1, rfl, o1, b1⟩
  have K := Lib.hid (V.out u1 w1 o1.lst)
  have O1 := Lib.hid o1
  clear V o1 M
  go_wp2_with fail
  refine K.out.mono ?_
  rintro e w2 ⟨u2, rfl, h2, k2⟩
  have b2 : Below w.heap.size w w2 := b1.trans (k2.mono b1.size)
  have O2 := Lib.hid (O1.out.below k2)
  have H2 := Lib.hid h2
  clear K k2 b1 h2
  go_wp2_with fail
  refine (R.out w2 b2).mono ?_
  rintro e w3 ⟨u3, rfl, o3, k3⟩
  have b3 : Below w.heap.size w w3 := b2.trans (k3.mono b2.size)
  have O3 := Lib.hid (O2.out.below k3)
  have S1 := Lib.hid (same_any u1 u3 s s w3 O3.out.lst o3.lst)
  have S2 := Lib.hid (same_any u2 (.slice A l.length c) l l w3 (H2.out.below k3) (H.out.below b3))
  rw [decide_eq_true rfl] at S1 S2
  clear k3 b2 o3
  go_wp2_with fail
  refine S1.out.mono ?_
  rintro e w' ⟨rfl, rfl⟩
  go_wp2_with fail
  refine S2.out.mono ?_
  rintro e w' ⟨rfl, rfl⟩
  go_wp2_with fail
  refine (rel (W := w) (X.out w3) b3).mono ?_
  rintro e w4 ⟨rfl, b4⟩
  go_wp2_with fail
  go_ret
  exact ⟨rfl, b4⟩
set_option maxHeartbeats 1000000 in
theorem verifies_law (v : Value) (l : List UInt8) (hl : l.length ≤ 9223372036854775807) (w : World) (h : LstB w v l) : Calls Try.prog 7 #[v] w fun e w' => e = .returned (.bool true) ∧ Below w.heap.size w w' := by
  have X := Lib.hid (fun W => ex_any W)
  by_cases g1 : 16384 < l.length
  · obtain ⟨A, c, rfl, -⟩ := h
    have g : (16384 : Int) < (l.length : Int) := by omega
    clear g1
    go_enter Try.func7, Try.ntmps7
    go_wp2_with fail
    refine (X.out _).mono ?_
    rintro e w1 ⟨rfl, b1⟩
    go_wp2_with fail
    go_ret
    exact ⟨rfl, b1⟩
  have d1 : decide ((16384 : Int) < (l.length : Int)) = false := by simp; omega
  have M := Lib.hid (verify_any v l (by omega) w h)
  have R := Lib.hid (fun W (hb : Below w.heap.size w W) => rverify_any v l (by omega) W (h.below hb))
  obtain ⟨A, c, rfl, -⟩ := h
  generalize verE l = q at M R
  generalize verL l = m at M R
  clear g1
  go_enter Try.func7, Try.ntmps7
  go_wp2_with fail
  refine M.out.mono ?_
  rintro e w1 ⟨u1, rfl, h1, b1⟩
  have H1 := Lib.hid h1
  clear M h1
  go_wp2_with fail
  refine (R.out w1 b1).mono ?_
  rintro e w2 ⟨u2, rfl, h2, k2⟩
  have b2 : Below w.heap.size w w2 := b1.trans (k2.mono b1.size)
  have S1 := Lib.hid (same_any u1 u2 m m w2 (H1.out.below k2) h2)
  rw [decide_eq_true rfl] at S1
  clear k2 b1 h2
  go_wp2_with fail
  refine S1.out.mono ?_
  rintro e w' ⟨rfl, rfl⟩
  go_wp2_with fail
  refine (rel (W := w) (X.out w2) b2).mono ?_
  rintro e w3 ⟨rfl, b3⟩
  go_wp2_with fail
  go_ret
  exact ⟨rfl, b3⟩
end Go.Proofs.Ytkadgmihaccogaa
