/-
  The laws TripChecks, TripFinds: each answers true for every input; nothing that existed before the call has changed behind it. Condition: the table that numerals are made with; lengths of 63 bits.
-/
import Derived.Test.YtfbobfejnbhjbaaDoorTrEx
import Derived.Test.YtfbobfejnbhjbaaDoorTrRChk
namespace Go.Proofs.YtfbobfejnbhjbaaDoor
open Go.RowKit

/-- What is asked of the trips among the arguments beside what the world says of them: nothing. -/
def OkTs (_ : List Tp) : Prop := True
/-- Three sizes in a box. -/
theorem box_sz {w w7 : World} {a b c : Int} (h : w.alloc (.cells #[.int .i64 a, .int .i64 b, .int .i64 c] 24 (0, 0)) = w7) :
    Below w.heap.size w w7 ∧ (∀ W, Below w7.heap.size w7 W → W.cell? ⟨w.heap.size, 0, none⟩ = some (.int .i64 a) ∧ W.cell? ⟨w.heap.size, 1, none⟩ = some (.int .i64 b) ∧ W.cell? ⟨w.heap.size, 2, none⟩ = some (.int .i64 c)) := by
  subst h
  have c7 := heap_alloc_new w (.cells #[.int .i64 a, .int .i64 b, .int .i64 c] 24 (0, 0))
  refine ⟨(Below.refl _ _).alloc (Nat.le_refl _) _, fun W hW => ?_⟩
  have c8 := (hW.block w.heap.size (by simp)).trans c7
  exact ⟨by rw [cell_of_row _ _ 0 _ _ _ c8]; rfl, by rw [cell_of_row _ _ 1 _ _ _ c8]; rfl, by rw [cell_of_row _ _ 2 _ _ _ c8]; rfl⟩
set_option maxRecDepth 100000 in
set_option maxHeartbeats 8000000 in
theorem checks_law (v : Value) (l : List Tp) (hl : l.length ≤ 9223372036854775807) (_ : OkTs l) (st ro ca : Int) (w : World) (hg : GoodP w) (h : LstTp w v l) : Calls Tryd.prog 3 #[v, .agg #[.int .i64 st, .int .i64 ro, .int .i64 ca]] w fun e w' => e = .returned (.bool true) ∧ Below w.heap.size w w' := by
  obtain ⟨w0, hw0⟩ : ∃ W, w.alloc (.cells #[.int .i64 st, .int .i64 ro, .int .i64 ca] 24 (0, 0)) = W := ⟨_, rfl⟩
  obtain ⟨b0, P⟩ := box_sz hw0
  have B0 := Lib.hid b0
  have H := Lib.hid (h.below b0)
  have G0 := Lib.hid (hg.below b0)
  have HP := Lib.hid P
  have TB := Lib.hid (table_any v l hl 260 w0 H.out)
  clear b0 P hg
  obtain ⟨⟨A, n, rfl, -, -, -⟩, -⟩ := h
  cases ht : tabT 260 l with
  | false =>
    rw [ht] at TB
    clear ht hl HP
    go_enter Tryd.func3, Tryd.ntmps3
    go_wp2_with fail
    refine TB.out.mono ?_
    rintro e w1 ⟨rfl, b1⟩
    have B1 : Hid (Below w.heap.size w w1) := B0.out.trans (b1.mono B0.out.size)
    have G1 := Lib.hid (G0.out.below b1)
    clear b1 TB B0 G0 H
    go_wp2_with fail
    refine (ex_any _ G1.out).mono ?_
    rintro e x9 ⟨rfl, y9⟩
    have B9 : Hid (Below w.heap.size w x9) := B1.out.trans (y9.mono B1.out.size)
    clear y9 
    go_wp2_with fail
    go_ret
    exact ⟨rfl, B9.out⟩
  | true =>
    have hn := tab_len ht
    have C := Lib.hid (fun W hW => ktck_any (.slice A l.length n) l hl st ro ca W hW)
    have R := Lib.hid (fun W hW => rtck_any (.slice A l.length n) l (by omega) st ro ca W hW)
    rw [ht] at TB
    generalize (chkT st ro ca l).1 = p at C R
    generalize (chkT st ro ca l).2 = q at C R
    have t1 := beq_true (a := p) rfl
    have t2 := beq_true (a := q) rfl
    clear ht hl hn
    go_enter Tryd.func3, Tryd.ntmps3
    go_wp2_with fail
    refine TB.out.mono ?_
    rintro e w1 ⟨rfl, b1⟩
    have B1 : Hid (Below w.heap.size w w1) := B0.out.trans (b1.mono B0.out.size)
    have G1 := Lib.hid (G0.out.below b1)
    have H1 := Lib.hid (H.out.below b1)
    have K1 : Hid (Below w0.heap.size w0 w1) := b1
    obtain ⟨p0, p1, p2⟩ := HP.out w1 b1
    clear b1 TB B0 G0 H hw0
    go_wp2_with fail
    refine (C.out _ H1.out).mono ?_
    rintro e w2 ⟨rfl, b2⟩
    have B2 : Hid (Below w.heap.size w w2) := B1.out.trans (b2.mono B1.out.size)
    have G2 := Lib.hid (G1.out.below b2)
    have H2 := Lib.hid (H1.out.below b2)
    obtain ⟨q0, q1, q2⟩ := HP.out w2 (K1.out.trans (b2.mono K1.out.size))
    clear b2 B1 G1 H1 C p0 p1 p2 K1
    go_wp2_with fail
    refine (R.out _ H2.out).mono ?_
    rintro e w3 ⟨rfl, b3⟩
    have B3 : Hid (Below w.heap.size w w3) := B2.out.trans (b3.mono B2.out.size)
    have G3 := Lib.hid (G2.out.below b3)
    clear b3 B2 G2 H2 R q0 q1 q2 HP
    go_wp2_with fail
    refine (ex_any _ G3.out).mono ?_
    rintro e x9 ⟨rfl, y9⟩
    have B9 : Hid (Below w.heap.size w x9) := B3.out.trans (y9.mono B3.out.size)
    clear y9 
    go_wp2_with fail
    go_ret
    exact ⟨rfl, B9.out⟩
set_option maxRecDepth 100000 in
set_option maxHeartbeats 8000000 in
theorem finds_law (v : Value) (l : List Tp) (hl : l.length ≤ 9223372036854775807) (_ : OkTs l) (t : ByteArray) (w : World) (hg : GoodP w) (h : LstTp w v l) : Calls Tryd.prog 4 #[v, .string t] w fun e w' => e = .returned (.bool true) ∧ Below w.heap.size w w' := by
  have H := Lib.hid h
  have G0 := Lib.hid hg
  have B0 := Lib.hid (Below.refl w.heap.size w)
  have TB := Lib.hid (table_any v l hl 60 w H.out)
  clear hg
  obtain ⟨⟨A, n, rfl, -, -, -⟩, -⟩ := h
  cases ht : tabT 60 l with
  | false =>
    rw [ht] at TB
    clear ht hl
    go_enter Tryd.func4, Tryd.ntmps4
    go_wp2_with fail
    refine TB.out.mono ?_
    rintro e w1 ⟨rfl, b1⟩
    have B1 : Hid (Below w.heap.size w w1) := b1
    have G1 := Lib.hid (G0.out.below b1)
    clear b1 TB B0 G0 H
    go_wp2_with fail
    refine (ex_any _ G1.out).mono ?_
    rintro e x9 ⟨rfl, y9⟩
    have B9 : Hid (Below w.heap.size w x9) := B1.out.trans (y9.mono B1.out.size)
    clear y9 
    go_wp2_with fail
    go_ret
    exact ⟨rfl, B9.out⟩
  | true =>
    have hn := tab_len ht
    rw [ht] at TB
    by_cases hs : 1024 < t.size
    · have g : (1024 : Int) < (t.size : Int) := by omega
      clear ht hl hs hn
      go_enter Tryd.func4, Tryd.ntmps4
      go_wp2_with fail
      refine TB.out.mono ?_
      rintro e w1 ⟨rfl, b1⟩
      have B1 : Hid (Below w.heap.size w w1) := b1
      have G1 := Lib.hid (G0.out.below b1)
      clear b1 TB B0 G0 H
      go_wp2_with fail
      refine (ex_any _ G1.out).mono ?_
      rintro e x9 ⟨rfl, y9⟩
      have B9 : Hid (Below w.heap.size w x9) := B1.out.trans (y9.mono B1.out.size)
      clear y9 
      go_wp2_with fail
      go_ret
      exact ⟨rfl, B9.out⟩
    have g : decide ((1024 : Int) < (t.size : Int)) = false := by rw [decide_eq_false_iff_not]; omega
    have C := Lib.hid (fun W hW => kfind_any (.slice A l.length n) l (by omega) t.data.toList t (str_list t) W hW)
    have R := Lib.hid (fun W hW => rfind_any (.slice A l.length n) l (by omega) t.data.toList t (str_list t) W hW)
    have hge := fd_ge (isT t.data.toList) l
    generalize fdT (isT t.data.toList) l = q at C R hge
    clear ht hl hs hn
    by_cases hq : 0 ≤ q
    · rw [Int.max_eq_left hq, decide_eq_true hq] at C
      have t1 := beq_true (a := q) rfl
      have d : decide (q < 0) = false := by rw [decide_eq_false_iff_not]; omega
      clear hq hge
      go_enter Tryd.func4, Tryd.ntmps4
      go_wp2_with fail
      refine TB.out.mono ?_
      rintro e w1 ⟨rfl, b1⟩
      have B1 : Hid (Below w.heap.size w w1) := b1
      have G1 := Lib.hid (G0.out.below b1)
      have H1 := Lib.hid (H.out.below b1)
      clear b1 TB B0 G0 H
      go_wp2_with fail
      refine (C.out _ H1.out).mono ?_
      rintro e w2 ⟨rfl, b2⟩
      have B2 : Hid (Below w.heap.size w w2) := B1.out.trans (b2.mono B1.out.size)
      have G2 := Lib.hid (G1.out.below b2)
      have H2 := Lib.hid (H1.out.below b2)
      clear b2 B1 G1 H1 C
      go_wp2_with fail
      refine (R.out _ H2.out).mono ?_
      rintro e w' ⟨rfl, rfl⟩
      go_wp2_with fail
      refine (ex_any _ G2.out).mono ?_
      rintro e x9 ⟨rfl, y9⟩
      have B9 : Hid (Below w.heap.size w x9) := B2.out.trans (y9.mono B2.out.size)
      clear y9 
      go_wp2_with fail
      go_ret
      exact ⟨rfl, B9.out⟩
    · have hq1 : q = -1 := by omega
      subst hq1
      rw [show max (-1 : Int) 0 = 0 from rfl, show decide ((0 : Int) ≤ -1) = false from rfl] at C
      clear hq hge
      go_enter Tryd.func4, Tryd.ntmps4
      go_wp2_with fail
      refine TB.out.mono ?_
      rintro e w1 ⟨rfl, b1⟩
      have B1 : Hid (Below w.heap.size w w1) := b1
      have G1 := Lib.hid (G0.out.below b1)
      have H1 := Lib.hid (H.out.below b1)
      clear b1 TB B0 G0 H
      go_wp2_with fail
      refine (C.out _ H1.out).mono ?_
      rintro e w2 ⟨rfl, b2⟩
      have B2 : Hid (Below w.heap.size w w2) := B1.out.trans (b2.mono B1.out.size)
      have G2 := Lib.hid (G1.out.below b2)
      have H2 := Lib.hid (H1.out.below b2)
      clear b2 B1 G1 H1 C
      go_wp2_with fail
      refine (R.out _ H2.out).mono ?_
      rintro e w' ⟨rfl, rfl⟩
      go_wp2_with fail
      refine (ex_any _ G2.out).mono ?_
      rintro e x9 ⟨rfl, y9⟩
      have B9 : Hid (Below w.heap.size w x9) := B2.out.trans (y9.mono B2.out.size)
      clear y9 
      go_wp2_with fail
      go_ret
      exact ⟨rfl, B9.out⟩
end Go.Proofs.YtfbobfejnbhjbaaDoor
