/-
  The laws ChecksumSums, ChecksumUpdates, ChecksumContinues, ChecksumLinear: true for every input, nothing that existed has changed. Condition: none beyond each theorem's own hypotheses.
-/
import Derived.Test.YtkadgmihaccogaaCExa
namespace Go.Proofs.Ytkadgmihaccogaa
open Go.RowKit

set_option maxHeartbeats 1000000 in
theorem sums_law (v : Value) (l : List UInt8) (hl : l.length ≤ 9223372036854775807) (w : World) (h : LstB w v l) : Calls Try.prog 3 #[v] w fun e w' => e = .returned (.bool true) ∧ Below w.heap.size w w' := by
  have X := Lib.hid (fun W => ex_any W)
  by_cases h1 : 16384 < l.length
  · obtain ⟨A, c, rfl, -⟩ := h
    have g : (16384 : Int) < (l.length : Int) := by omega
    clear h1
    go_enter Try.func3, Try.ntmps3
    go_wp2_with fail
    refine (X.out _).mono ?_
    rintro e w1 ⟨rfl, b1⟩
    go_wp2_with fail
    go_ret
    exact ⟨rfl, b1⟩
  · have g : decide ((16384 : Int) < (l.length : Int)) = false := by simp; omega
    have M := Lib.hid (crc_any v l hl w h)
    have R := Lib.hid (fun W (hb : Below w.heap.size w W) => rsum_any v l hl W (h.below hb))
    obtain ⟨A, c, rfl, -⟩ := h
    generalize crc l = r at M R
    clear h1
    go_enter Try.func3, Try.ntmps3
    go_wp2_with fail
    refine M.out.mono ?_
    rintro e w1 ⟨rfl, b1⟩
    go_wp2_with fail
    refine (R.out w1 b1).mono ?_
    rintro e w' ⟨rfl, rfl⟩
    go_wp2_with fail
    refine (rel (W := w) (X.out w1) b1).mono ?_
    rintro e w2 ⟨rfl, b2⟩
    go_wp2_with fail
    go_ret
    exact ⟨rfl, b2⟩
set_option maxHeartbeats 1000000 in
theorem updates_law (k : Nat) (hk : k < 4294967296) (v : Value) (l : List UInt8) (hl : l.length ≤ 9223372036854775807) (w : World) (h : LstB w v l) : Calls Try.prog 4 #[.int .u32 (k : Int), v] w fun e w' => e = .returned (.bool true) ∧ Below w.heap.size w w' := by
  have X := Lib.hid (fun W => ex_any W)
  by_cases h1 : 16384 < l.length
  · obtain ⟨A, c, rfl, -⟩ := h
    have g : (16384 : Int) < (l.length : Int) := by omega
    clear h1
    go_enter Try.func4, Try.ntmps4
    go_wp2_with fail
    refine (X.out _).mono ?_
    rintro e w1 ⟨rfl, b1⟩
    go_wp2_with fail
    go_ret
    exact ⟨rfl, b1⟩
  · have g : decide ((16384 : Int) < (l.length : Int)) = false := by simp; omega
    have M := Lib.hid (update_any k hk v l hl w h)
    have R := Lib.hid (fun W (hb : Below w.heap.size w W) => rupdate_any k hk v l hl W (h.below hb))
    obtain ⟨A, c, rfl, -⟩ := h
    generalize upd k l = r at M R
    clear h1
    go_enter Try.func4, Try.ntmps4
    go_wp2_with fail
    refine M.out.mono ?_
    rintro e w1 ⟨rfl, b1⟩
    go_wp2_with fail
    refine (R.out w1 b1).mono ?_
    rintro e w' ⟨rfl, rfl⟩
    go_wp2_with fail
    refine (rel (W := w) (X.out w1) b1).mono ?_
    rintro e w2 ⟨rfl, b2⟩
    go_wp2_with fail
    go_ret
    exact ⟨rfl, b2⟩
set_option maxHeartbeats 1000000 in
theorem continues_law (u : Value) (l : List UInt8) (hl : l.length ≤ 9223372036854775807) (v : Value) (m : List UInt8) (hm : m.length ≤ 9223372036854775807) (w : World) (h : LstB w u l) (h' : LstB w v m) : Calls Try.prog 5 #[u, v] w fun e w' => e = .returned (.bool true) ∧ Below w.heap.size w w' := by
  have X := Lib.hid (fun W => ex_any W)
  by_cases h1 : 4096 < l.length
  · obtain ⟨A, c, rfl, -⟩ := h
    obtain ⟨A', c', rfl, -⟩ := h'
    have g : (4096 : Int) < (l.length : Int) := by omega
    clear h1
    go_enter Try.func5, Try.ntmps5
    go_wp2_with fail
    refine (X.out _).mono ?_
    rintro e w1 ⟨rfl, b1⟩
    go_wp2_with fail
    go_ret
    exact ⟨rfl, b1⟩
  have g1 : decide ((4096 : Int) < (l.length : Int)) = false := by simp; omega
  by_cases h2 : 4096 < m.length
  · obtain ⟨A, c, rfl, -⟩ := h
    obtain ⟨A', c', rfl, -⟩ := h'
    have g : (4096 : Int) < (m.length : Int) := by omega
    clear h1 h2
    go_enter Try.func5, Try.ntmps5
    go_wp2_with fail
    refine (X.out _).mono ?_
    rintro e w1 ⟨rfl, b1⟩
    go_wp2_with fail
    go_ret
    exact ⟨rfl, b1⟩
  have g2 : decide ((4096 : Int) < (m.length : Int)) = false := by simp; omega
  have H := Lib.hid h
  have H' := Lib.hid h'
  have L := Lib.hid (show l.length ≤ 4096 ∧ m.length ≤ 4096 by omega)
  have C1 := Lib.hid (fun W (hb : Below w.heap.size w W) => crc_any u l hl W (h.below hb))
  have C2 := Lib.hid (fun W (hb : Below w.heap.size w W) => update_any (crc l) (crc_lt l) v m hm W (h'.below hb))
  have C3 := Lib.hid (fun x W (hx : LstB W x (l ++ m)) => crc_any x (l ++ m) (by rw [List.length_append]; omega) W hx)
  rw [crc_app] at C2
  obtain ⟨A, c, rfl, -⟩ := h
  obtain ⟨A', c', rfl, -⟩ := h'
  generalize crc l = r at C1 C2
  generalize crc (l ++ m) = r2 at C2 C3
  clear h1 h2
  go_enter Try.func5, Try.ntmps5
  go_wp2_with (first
    | (at_builtin; refine app_lstb _ rfl (.tmp 15) (.tmp 16) rfl w.heap.size _ [] l rfl (OwnB.nil _ _) _ rfl H.out (Nat.le_refl _) (by have := L.out; simp; omega) ?_; intro v1 w1 own1 b1; have O1 := Lib.hid own1; have B1 := Lib.hid b1; clear own1 b1)
    | (at_builtin; refine app_lstb _ rfl (.tmp 17) (.tmp 18) rfl w.heap.size _ l m rfl O1.out _ rfl (H'.out.below B1.out) B1.out.size (by have := L.out; omega) ?_; intro v2 w2 own2 b2; have O2 := Lib.hid own2; have B2 := Lib.hid (B1.out.trans b2); clear own2 b2))
  refine (C1.out w2 B2.out).mono ?_
  rintro e w3 ⟨rfl, b3⟩
  have B3 := Lib.hid (B2.out.trans (b3.mono B2.out.size))
  have O3 := Lib.hid (O2.out.below b3)
  clear b3 C1
  go_wp2_with fail
  refine (C2.out w3 B3.out).mono ?_
  rintro e w4 ⟨rfl, b4⟩
  have B4 := Lib.hid (B3.out.trans (b4.mono B3.out.size))
  have O4 := Lib.hid (O3.out.below b4)
  clear b4 C2
  go_wp2_with fail
  refine (C3.out v2 w4 O4.out.lst).mono ?_
  rintro e w5 ⟨rfl, b5⟩
  have B5 := Lib.hid (B4.out.trans (b5.mono B4.out.size))
  clear b5 C3
  go_wp2_with fail
  refine (rel (W := w) (X.out w5) B5.out).mono ?_
  rintro e w6 ⟨rfl, b6⟩
  go_wp2_with fail
  go_ret
  exact ⟨rfl, b6⟩
end Go.Proofs.Ytkadgmihaccogaa
