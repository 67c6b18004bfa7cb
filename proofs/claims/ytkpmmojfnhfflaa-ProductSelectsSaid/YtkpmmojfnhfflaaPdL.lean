/-
  The laws ProductChecks, ProductPrices, ProductCheapest, ProductDiscounts: each answers true for every input; nothing that existed before the call has changed behind it. Condition: lengths of 63 bits.
-/
import Derived.Test.YtkpmmojfnhfflaaPdE
import Derived.Test.YtkpmmojfnhfflaaPdZ
namespace Go.Proofs.Ytkpmmojfnhfflaa
open Go.RowKit

/-- The fares among a law's arguments: their box behind the entry, their products. -/
def FaSt (w0 : World) (vl : Value) (l : List Pd) (d wi c : Int) (W : World) : Prop := W.heap[w0.heap.size]? = some (boxFa vl d wi c) ∧ LstPd W vl l ∧ Below w0.heap.size w0 W
section
variable {w0 W W' : World} {vl : Value} {l : List Pd} {d wi c : Int}
theorem FaSt.on (h : FaSt w0 vl l d wi c W) (b : Below W.heap.size W W') : FaSt w0 vl l d wi c W' := ⟨(b.block _ (Array.getElem?_eq_some_iff.1 h.1).1).trans h.1, h.2.1.below b, h.2.2.trans (b.mono h.2.2.size)⟩
theorem FaSt.cells (h : FaSt w0 vl l d wi c W) : W.cell? ⟨w0.heap.size, 0, none⟩ = some vl ∧ W.cell? ⟨w0.heap.size, 1, none⟩ = some (.int .i64 d) ∧ W.cell? ⟨w0.heap.size, 2, none⟩ = some (.int .i64 wi) ∧ W.cell? ⟨w0.heap.size, 3, none⟩ = some (.int .i64 c) := row_fa h.1
theorem FaSt.lst (h : FaSt w0 vl l d wi c W) : LstPd W vl l := h.2.1
theorem FaSt.below (h : FaSt w0 vl l d wi c W) : Below w0.heap.size w0 W := h.2.2
theorem FaSt.new (h : LstPd w0 vl l) (hw : w0.alloc (boxFa vl d wi c) = W) : FaSt w0 vl l d wi c W := by
  obtain ⟨b7, -, -, -, -, -, h7⟩ := box_fa hw
  exact ⟨h7, h.below b7, b7⟩
end
theorem large_no (A A2 : Option Addr) (n n2 k k2 : Nat) (d wi c : Int) (h : n ≤ 40) (h2 : n2 ≤ 40) (w : World) : Calls Try.prog 9 #[faV (.slice A n k) d wi c, .slice A2 n2 k2] w fun e w' => e = .returned (.bool false) ∧ Below w.heap.size w w' := by
  obtain ⟨w7, hw7⟩ : ∃ W, w.alloc (boxFa (.slice A n k) d wi c) = W := ⟨_, rfl⟩
  obtain ⟨b7, p0, p1, p2, p3, s7, -⟩ := box_fa hw7
  have B7 := Lib.hid b7
  have g : decide ((40 : Int) < (n : Int)) = false := decide_eq_false (by omega)
  have g2 : decide ((40 : Int) < (n2 : Int)) = false := decide_eq_false (by omega)
  clear b7 s7
  go_enter Try.func9, Try.ntmps9
  go_wp2_with fail
  go_ret
  exact ⟨rfl, B7.out⟩
theorem large_yes (A A2 : Option Addr) (n n2 k k2 : Nat) (d wi c : Int) (h : ¬ (n ≤ 40 ∧ n2 ≤ 40)) (w : World) : Calls Try.prog 9 #[faV (.slice A n k) d wi c, .slice A2 n2 k2] w fun e w' => e = .returned (.bool true) ∧ Below w.heap.size w w' := by
  obtain ⟨w7, hw7⟩ : ∃ W, w.alloc (boxFa (.slice A n k) d wi c) = W := ⟨_, rfl⟩
  obtain ⟨b7, p0, p1, p2, p3, s7, -⟩ := box_fa hw7
  have B7 := Lib.hid b7
  clear b7 s7
  by_cases h1 : 40 < n
  · have g : (40 : Int) < (n : Int) := by omega
    clear h h1
    go_enter Try.func9, Try.ntmps9
    go_wp2_with fail
    go_ret
    exact ⟨rfl, B7.out⟩
  · have g : decide ((40 : Int) < (n : Int)) = false := decide_eq_false (by omega)
    have g2 : (40 : Int) < (n2 : Int) := by omega
    clear h h1
    go_enter Try.func9, Try.ntmps9
    go_wp2_with fail
    go_ret
    exact ⟨rfl, B7.out⟩
set_option maxRecDepth 100000 in
set_option maxHeartbeats 4000000 in
theorem checks_law (vl : Value) (l : List Pd) (hl : l.length ≤ 9223372036854775807) (_ : OkPds l) (d wi c : Int) (w : World) (h : LstPd w vl l) : Calls Try.prog 3 #[faV vl d wi c] w fun e w' => e = .returned (.bool true) ∧ Below w.heap.size w w' := by
  obtain ⟨w7, hw7⟩ : ∃ W, w.alloc (boxFa vl d wi c) = W := ⟨_, rfl⟩
  have S7 := Lib.hid (FaSt.new h hw7)
  obtain ⟨A, n, rfl, -, -, -⟩ := h
  by_cases hlg : ¬ (l.length ≤ 40)
  · go_enter Try.func3, Try.ntmps3
    obtain ⟨p0, p1, p2, p3⟩ := S7.out.cells
    have C := Lib.hid (large_yes A none l.length 0 n 0 d wi c (by omega) w7)
    go_wp2_with fail
    refine C.out.mono ?_
    rintro e w8 ⟨rfl, y8⟩
    have S8 := Lib.hid (S7.out.on y8)
    clear C S7 y8 p0 p1 p2 p3
    have C := Lib.hid (ex_any w8)
    go_wp2_with fail
    refine C.out.mono ?_
    rintro e w9 ⟨rfl, y9⟩
    have S9 := Lib.hid (S8.out.on y9)
    clear C S8 y9
    go_wp2_with fail
    go_ret
    exact ⟨rfl, S9.out.below⟩
  have hlt := Decidable.not_not.1 hlg
  clear hlg
  have hl1 := hlt
  obtain ⟨⟨a0, a1⟩, hq⟩ : ∃ q, chkPd d wi c l = q := ⟨_, rfl⟩
  have g0 : (a0 == a0) = true := beq_true rfl
  have g1 : (a1 == a1) = true := beq_true rfl
  have K1 := Lib.hid (fun W hW => kcheck_any (.slice A l.length n) l d wi c hl W hW)
  have K2 := Lib.hid (fun W hW => rcheck_any (.slice A l.length n) l d wi c hl W hW)
  rw [hq] at K1 K2
  clear hq
  go_enter Try.func3, Try.ntmps3
  obtain ⟨p0, p1, p2, p3⟩ := S7.out.cells
  have C := Lib.hid (large_no A none l.length 0 n 0 d wi c hl1 (by decide) w7)
  go_wp2_with fail
  refine C.out.mono ?_
  rintro e w8 ⟨rfl, y8⟩
  have S8 := Lib.hid (S7.out.on y8)
  clear C S7 y8 p0 p1 p2 p3
  obtain ⟨p0, p1, p2, p3⟩ := S8.out.cells
  have C := Lib.hid (K1.out w8 S8.out.lst)
  go_wp2_with fail
  refine C.out.mono ?_
  rintro e w9 ⟨rfl, y9⟩
  have S9 := Lib.hid (S8.out.on y9)
  clear C S8 y9 p0 p1 p2 p3
  obtain ⟨p0, p1, p2, p3⟩ := S9.out.cells
  have C := Lib.hid (K2.out w9 S9.out.lst)
  go_wp2_with fail
  refine C.out.mono ?_
  rintro e w10 ⟨rfl, y10⟩
  have S10 := Lib.hid (S9.out.on y10)
  clear C S9 y10 p0 p1 p2 p3
  have C := Lib.hid (ex_any w10)
  go_wp2_with fail
  refine C.out.mono ?_
  rintro e w11 ⟨rfl, y11⟩
  have S11 := Lib.hid (S10.out.on y11)
  clear C S10 y11
  go_wp2_with fail
  go_ret
  exact ⟨rfl, S11.out.below⟩
set_option maxRecDepth 100000 in
set_option maxHeartbeats 4000000 in
theorem prices_law (vl : Value) (l : List Pd) (hl : l.length ≤ 9223372036854775807) (_ : OkPds l) (d wi c : Int) (i wt : Int) (w : World) (h : LstPd w vl l) : Calls Try.prog 5 #[faV vl d wi c, .int .i64 i, .int .i64 wt] w fun e w' => e = .returned (.bool true) ∧ Below w.heap.size w w' := by
  obtain ⟨w7, hw7⟩ : ∃ W, w.alloc (boxFa vl d wi c) = W := ⟨_, rfl⟩
  have S7 := Lib.hid (FaSt.new h hw7)
  obtain ⟨A, n, rfl, -, -, -⟩ := h
  by_cases hlg : ¬ (l.length ≤ 40)
  · go_enter Try.func5, Try.ntmps5
    obtain ⟨p0, p1, p2, p3⟩ := S7.out.cells
    have C := Lib.hid (large_yes A none l.length 0 n 0 d wi c (by omega) w7)
    go_wp2_with fail
    refine C.out.mono ?_
    rintro e w8 ⟨rfl, y8⟩
    have S8 := Lib.hid (S7.out.on y8)
    clear C S7 y8 p0 p1 p2 p3
    have C := Lib.hid (ex_any w8)
    go_wp2_with fail
    refine C.out.mono ?_
    rintro e w9 ⟨rfl, y9⟩
    have S9 := Lib.hid (S8.out.on y9)
    clear C S8 y9
    go_wp2_with fail
    go_ret
    exact ⟨rfl, S9.out.below⟩
  have hlt := Decidable.not_not.1 hlg
  clear hlg
  have hl1 := hlt
  obtain ⟨⟨a0, a1⟩, hqa⟩ : ∃ q, prA d wi c l i true wt = q := ⟨_, rfl⟩
  have ga : (a0 == a0) = true := beq_true rfl
  have ga1 : (a1 == a1) = true := by cases a1 <;> rfl
  have Ka := Lib.hid (fun W hW => kpr_any (.slice A l.length n) l d wi c hl i true wt W hW)
  have Ra := Lib.hid (fun W hW => rpr_any (.slice A l.length n) l d wi c hl i true wt W hW)
  rw [hqa] at Ka Ra
  clear hqa
  obtain ⟨⟨b0, b1⟩, hqb⟩ : ∃ q, prA d wi c l i false wt = q := ⟨_, rfl⟩
  have gb : (b0 == b0) = true := beq_true rfl
  have gb1 : (b1 == b1) = true := by cases b1 <;> rfl
  have Kb := Lib.hid (fun W hW => kpr_any (.slice A l.length n) l d wi c hl i false wt W hW)
  have Rb := Lib.hid (fun W hW => rpr_any (.slice A l.length n) l d wi c hl i false wt W hW)
  rw [hqb] at Kb Rb
  clear hqb
  go_enter Try.func5, Try.ntmps5
  obtain ⟨p0, p1, p2, p3⟩ := S7.out.cells
  have C := Lib.hid (large_no A none l.length 0 n 0 d wi c hl1 (by decide) w7)
  go_wp2_with fail
  refine C.out.mono ?_
  rintro e w8 ⟨rfl, y8⟩
  have S8 := Lib.hid (S7.out.on y8)
  clear C S7 y8 p0 p1 p2 p3
  obtain ⟨p0, p1, p2, p3⟩ := S8.out.cells
  have C := Lib.hid (Ka.out w8 S8.out.lst)
  go_wp2_with fail
  refine C.out.mono ?_
  rintro e w9 ⟨rfl, y9⟩
  have S9 := Lib.hid (S8.out.on y9)
  clear C S8 y9 p0 p1 p2 p3
  obtain ⟨p0, p1, p2, p3⟩ := S9.out.cells
  have C := Lib.hid (Ra.out w9 S9.out.lst)
  go_wp2_with fail
  refine C.out.mono ?_
  rintro e w10 ⟨rfl, y10⟩
  have S10 := Lib.hid (S9.out.on y10)
  clear C S9 y10 p0 p1 p2 p3
  obtain ⟨p0, p1, p2, p3⟩ := S10.out.cells
  have C := Lib.hid (Kb.out w10 S10.out.lst)
  go_wp2_with fail
  refine C.out.mono ?_
  rintro e w11 ⟨rfl, y11⟩
  have S11 := Lib.hid (S10.out.on y11)
  clear C S10 y11 p0 p1 p2 p3
  obtain ⟨p0, p1, p2, p3⟩ := S11.out.cells
  have C := Lib.hid (Rb.out w11 S11.out.lst)
  go_wp2_with fail
  refine C.out.mono ?_
  rintro e w12 ⟨rfl, y12⟩
  have S12 := Lib.hid (S11.out.on y12)
  clear C S11 y12 p0 p1 p2 p3
  have C := Lib.hid (ex_any w12)
  go_wp2_with fail
  refine C.out.mono ?_
  rintro e w13 ⟨rfl, y13⟩
  have S13 := Lib.hid (S12.out.on y13)
  clear C S12 y13
  go_wp2_with fail
  go_ret
  exact ⟨rfl, S13.out.below⟩
set_option maxRecDepth 100000 in
set_option maxHeartbeats 4000000 in
theorem cheap_law (vl : Value) (l : List Pd) (hl : l.length ≤ 9223372036854775807) (hok : OkPds l) (d wi c : Int) (vr : Value) (rs : List Ri) (hrl : rs.length ≤ 9223372036854775807) (hrk : OkRis rs) (w : World) (h : LstPd w vl l) (hr : LstRi w vr rs) : Calls Try.prog 6 #[faV vl d wi c, vr] w fun e w' => e = .returned (.bool true) ∧ Below w.heap.size w w' := by
  obtain ⟨w7, hw7⟩ : ∃ W, w.alloc (boxFa vl d wi c) = W := ⟨_, rfl⟩
  have S7 := Lib.hid (FaSt.new h hw7)
  have HR := Lib.hid (hr.below S7.out.below)
  obtain ⟨A, n, rfl, -, -, -⟩ := h
  obtain ⟨A2, n2, rfl, -, -, -⟩ := hr
  by_cases hlg : ¬ (l.length ≤ 40 ∧ rs.length ≤ 40)
  · go_enter Try.func6, Try.ntmps6
    obtain ⟨p0, p1, p2, p3⟩ := S7.out.cells
    have C := Lib.hid (large_yes A A2 l.length rs.length n n2 d wi c (by omega) w7)
    go_wp2_with fail
    refine C.out.mono ?_
    rintro e w8 ⟨rfl, y8⟩
    have S8 := Lib.hid (S7.out.on y8)
    clear C S7 y8 p0 p1 p2 p3
    have C := Lib.hid (ex_any w8)
    go_wp2_with fail
    refine C.out.mono ?_
    rintro e w9 ⟨rfl, y9⟩
    have S9 := Lib.hid (S8.out.on y9)
    clear C S8 y9
    go_wp2_with fail
    go_ret
    exact ⟨rfl, S9.out.below⟩
  have hlt := Decidable.not_not.1 hlg
  clear hlg
  obtain ⟨hl1, hl2⟩ := hlt
  obtain ⟨⟨a0, a1, a2⟩, hq⟩ : ∃ q, chA d wi c l rs = q := ⟨_, rfl⟩
  have g0 : (a0 == a0) = true := beq_true rfl
  have g1 : (a1 == a1) = true := beq_true rfl
  have g2 : (a2 == a2) = true := by cases a2 <;> rfl
  have K1 := Lib.hid (fun W hW hW2 => kche_any (.slice A l.length n) l d wi c (by omega) hok (.slice A2 rs.length n2) rs hrl hrk W hW hW2)
  have K2 := Lib.hid (fun W hW hW2 => rche_any (.slice A l.length n) l d wi c (by omega) hok (.slice A2 rs.length n2) rs hrl hrk W hW hW2)
  rw [hq] at K1 K2
  clear hq hok hrk
  go_enter Try.func6, Try.ntmps6
  obtain ⟨p0, p1, p2, p3⟩ := S7.out.cells
  have C := Lib.hid (large_no A A2 l.length rs.length n n2 d wi c hl1 hl2 w7)
  go_wp2_with fail
  refine C.out.mono ?_
  rintro e w8 ⟨rfl, y8⟩
  have S8 := Lib.hid (S7.out.on y8)
  have HR := Lib.hid (HR.out.below y8)
  clear C S7 y8 p0 p1 p2 p3
  obtain ⟨p0, p1, p2, p3⟩ := S8.out.cells
  have C := Lib.hid (K1.out w8 S8.out.lst HR.out)
  go_wp2_with fail
  refine C.out.mono ?_
  rintro e w9 ⟨rfl, y9⟩
  have S9 := Lib.hid (S8.out.on y9)
  have HR := Lib.hid (HR.out.below y9)
  clear C S8 y9 p0 p1 p2 p3
  obtain ⟨p0, p1, p2, p3⟩ := S9.out.cells
  have C := Lib.hid (K2.out w9 S9.out.lst HR.out)
  go_wp2_with fail
  refine C.out.mono ?_
  rintro e w10 ⟨rfl, y10⟩
  have S10 := Lib.hid (S9.out.on y10)
  have HR := Lib.hid (HR.out.below y10)
  clear C S9 y10 p0 p1 p2 p3
  have C := Lib.hid (ex_any w10)
  go_wp2_with fail
  refine C.out.mono ?_
  rintro e w11 ⟨rfl, y11⟩
  have S11 := Lib.hid (S10.out.on y11)
  clear C S10 y11
  go_wp2_with fail
  go_ret
  exact ⟨rfl, S11.out.below⟩
end Go.Proofs.Ytkpmmojfnhfflaa
