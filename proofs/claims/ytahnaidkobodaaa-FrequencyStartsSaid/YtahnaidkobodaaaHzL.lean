/-
  The laws FrequencyChecks, FrequencyStarts, FrequencyShifts: each answers true for every input; nothing that existed before the call has changed behind it. Condition: lengths of 63 bits.
-/
import Derived.Test.YtahnaidkobodaaaHzQ
import Derived.Test.YtahnaidkobodaaaHzX
import Derived.Test.YtahnaidkobodaaaTpO
namespace Go.Proofs.Ytahnaidkobodaaa
open Go.RowKit

/-- What is asked of the frequencies among the arguments beside what the world says of them: nothing. -/
def OkFs (_ : List Fq) : Prop := True
set_option maxRecDepth 100000 in
set_option maxHeartbeats 8000000 in
theorem checks_law (vl : Value) (l : List Fq) (_ : l.length ≤ 9223372036854775807) (_ : OkFs l) (vt : Value) (ts : List Tp) (htl : ts.length ≤ 9223372036854775807) (_ : OkTs ts) (w : World) (h : LstF w vl l) (ht : LstTp w vt ts) : Calls Try.prog 3 #[vl, vt] w fun e w' => e = .returned (.bool true) ∧ Below w.heap.size w w' := by
  have C1 := Lib.hid (rmny_any vl l 3000 w h)
  have H := Lib.hid h
  have HT := Lib.hid ht
  obtain ⟨A, n, rfl, -, -, -⟩ := id h
  obtain ⟨⟨D, m, rfl, -, -, -⟩, -⟩ := id ht
  clear h ht
  cases h1 : mnyF l 3000 with
  | true =>
    rw [h1] at C1
    clear h1
    go_enter Try.func3, Try.ntmps3
    go_wp2_with fail
    refine C1.out.mono ?_
    rintro e w1 ⟨rfl, b1⟩
    have B1 : Hid (Below w.heap.size w w1) := b1
    clear b1 C1
    go_wp2_with fail
    refine (ex_any _).mono ?_
    rintro e x9 ⟨rfl, y9⟩
    have B9 : Hid (Below w.heap.size w x9) := B1.out.trans (y9.mono B1.out.size)
    clear y9
    go_wp2_with fail
    go_ret
    exact ⟨rfl, B9.out⟩
  | false =>
    rw [h1] at C1
    have hll := (mny_no h1).1
    have P1 := Lib.hid (fun W hW => plain_any (.slice D ts.length m) ts W hW)
    clear h1
    cases h2 : plnT ts with
    | false =>
      rw [h2] at P1
      clear h2
      go_enter Try.func3, Try.ntmps3
      go_wp2_with fail
      refine C1.out.mono ?_
      rintro e w1 ⟨rfl, b1⟩
      have B1 : Hid (Below w.heap.size w w1) := b1
      have T1 := Lib.hid (HT.out.below b1)
      clear b1 C1
      go_wp2_with fail
      refine (P1.out _ T1.out).mono ?_
      rintro e w' ⟨rfl, rfl⟩
      clear T1 P1
      go_wp2_with fail
      refine (ex_any _).mono ?_
      rintro e x9 ⟨rfl, y9⟩
      have B9 : Hid (Below w.heap.size w x9) := B1.out.trans (y9.mono B1.out.size)
      clear y9
      go_wp2_with fail
      go_ret
      exact ⟨rfl, B9.out⟩
    | true =>
      rw [h2] at P1
      have hts := (pln_is h2).2
      have htn := (pln_is h2).1
      have V1 := Lib.hid (fun W hW => valid_any (.slice D ts.length m) ts htl W hW)
      clear h2
      have K := Lib.hid (fun W hW hX => kchk_any (.slice A l.length n) l (by omega) (.slice D ts.length m) ts (fun x hx => Nat.le_trans (hts x hx) (by decide)) W hW hX)
      have R := Lib.hid (fun W hW hX => rchk_any (.slice A l.length n) l (by omega) (.slice D ts.length m) ts (fun x hx => Nat.le_trans (hts x hx) (by decide)) W hW hX)
      generalize (chkF (ts.map clT) l).1 = p at K R
      generalize (chkF (ts.map clT) l).2 = q at K R
      have t1 := beq_true (a := p) rfl
      have t2 := beq_true (a := q) rfl
      clear hts
      go_enter Try.func3, Try.ntmps3
      go_wp2_with fail
      refine C1.out.mono ?_
      rintro e w1 ⟨rfl, b1⟩
      have B1 : Hid (Below w.heap.size w w1) := b1
      have T1 := Lib.hid (HT.out.below b1)
      have H1 := Lib.hid (H.out.below b1)
      clear b1 C1 H HT
      go_wp2_with fail
      refine (P1.out _ T1.out).mono ?_
      rintro e w' ⟨rfl, rfl⟩
      go_wp2_with fail
      refine (V1.out _ T1.out).mono ?_
      rintro e w2 ⟨⟨r, rfl, hr⟩, b2⟩
      have B2 : Hid (Below w.heap.size w w2) := B1.out.trans (b2.mono B1.out.size)
      have T2 := Lib.hid (T1.out.below b2)
      have H2 := Lib.hid (H1.out.below b2)
      clear b2 V1 P1 T1 H1 B1
      cases r with
      | false =>
        clear hr T2 H2
        go_wp2_with fail
        refine (ex_any _).mono ?_
        rintro e x9 ⟨rfl, y9⟩
        have B9 : Hid (Below w.heap.size w x9) := B2.out.trans (y9.mono B2.out.size)
        clear y9
        go_wp2_with fail
        go_ret
        exact ⟨rfl, B9.out⟩
      | true =>
        have two := hr rfl
        clear hr
        clear two
        go_wp2_with fail
        refine (K.out _ H2.out T2.out).mono ?_
        rintro e w3 ⟨rfl, b3⟩
        have B3 : Hid (Below w.heap.size w w3) := B2.out.trans (b3.mono B2.out.size)
        have T3 := Lib.hid (T2.out.below b3)
        have H3 := Lib.hid (H2.out.below b3)
        clear b3 K T2 H2 B2
        go_wp2_with fail
        refine (R.out _ H3.out T3.out).mono ?_
        rintro e w4 ⟨rfl, b4⟩
        have B4 : Hid (Below w.heap.size w w4) := B3.out.trans (b4.mono B3.out.size)
        clear b4 R T3 H3 B3
        go_wp2_with fail
        refine (ex_any _).mono ?_
        rintro e x9 ⟨rfl, y9⟩
        have B9 : Hid (Below w.heap.size w x9) := B4.out.trans (y9.mono B4.out.size)
        clear y9
        go_wp2_with fail
        go_ret
        exact ⟨rfl, B9.out⟩
set_option maxRecDepth 100000 in
set_option maxHeartbeats 8000000 in
theorem starts_law (vl : Value) (l : List Fq) (_ : l.length ≤ 9223372036854775807) (_ : OkFs l) (tr : Int) (w : World) (h : LstF w vl l) : Calls Try.prog 4 #[vl, .int .i64 tr] w fun e w' => e = .returned (.bool true) ∧ Below w.heap.size w w' := by
  have C1 := Lib.hid (rmny_any vl l 1000 w h)
  have H := Lib.hid h
  obtain ⟨A, n, rfl, -, -, -⟩ := id h
  clear h
  cases h1 : mnyF l 1000 with
  | true =>
    rw [h1] at C1
    clear h1
    go_enter Try.func4, Try.ntmps4
    go_wp2_with fail
    refine C1.out.mono ?_
    rintro e w1 ⟨rfl, b1⟩
    have B1 : Hid (Below w.heap.size w w1) := b1
    clear b1 C1
    go_wp2_with fail
    refine (ex_any _).mono ?_
    rintro e x9 ⟨rfl, y9⟩
    have B9 : Hid (Below w.heap.size w x9) := B1.out.trans (y9.mono B1.out.size)
    clear y9
    go_wp2_with fail
    go_ret
    exact ⟨rfl, B9.out⟩
  | false =>
    rw [h1] at C1
    have hll := (mny_no h1).1
    have hil : (insF tr l).length ≤ 1099511627776 := by have := ins_le tr l; omega
    have K1 := Lib.hid (fun W hW => kinst_any (.slice A l.length n) l (by omega) tr W hW)
    have K2 := Lib.hid (fun W hW => rinst_any (.slice A l.length n) l (by omega) tr W hW)
    have K4 := Lib.hid (fun W hW => krep_any (.slice A l.length n) l (by omega) tr W hW)
    have K5 := Lib.hid (fun W hW => rrep_any (.slice A l.length n) l (by omega) tr W hW)
    have hsl : (srtI (insF tr l)).length ≤ 1099511627776 := by rw [srtI_len]; exact hil
    have K3 := Lib.hid (fun a b W (hA : LstI W a (srtI (insF tr l))) (hB : LstI W b (srtI (insF tr l))) => Calls.below (same_any a b (srtI (insF tr l)) (srtI (insF tr l)) hsl W hA hB))
    generalize srtI (insF tr l) = E at K1 K2 K3
    rw [decide_eq_true (rfl : E = E)] at K3
    clear h1 hil hsl
    go_enter Try.func4, Try.ntmps4
    go_wp2_with fail
    refine C1.out.mono ?_
    rintro e w1 ⟨rfl, b1⟩
    have B1 : Hid (Below w.heap.size w w1) := b1
    have H1 := Lib.hid (H.out.below b1)
    clear b1 C1 H
    go_wp2_with fail
    go_loopw [5] (fun i wr => ∃ k : Nat, i = .int .i64 k ∧ k ≤ l.length ∧ Hid (Below w1.heap.size w1 wr)) (fun i _ => l.length - (intOf i).toNat)
    case atStart => exact ⟨0, rfl, Nat.zero_le _, Lib.hid (Below.refl _ _)⟩
    case round =>
      obtain ⟨k, rfl, hk, HB⟩ := hrel
      by_cases hlt : k < l.length
      · obtain ⟨⟨t, a, b, v⟩, hf⟩ := at_lt hlt
        obtain ⟨p, o, rfl, hp, m0, m1, m2, m3⟩ := four_at (H1.out.below HB.out) hf
        have gk : (k : Int) < (l.length : Int) := by omega
        have HP := Lib.hid hp
        have M0 := Lib.hid m0
        have M1 := Lib.hid m1
        have M2 := Lib.hid m2
        have M3 := Lib.hid m3
        have J1 := Lib.hid (fun W (hW : Below wr.heap.size wr W) => far_ints (kstarts_any t a b v W) hW)
        have J2 := Lib.hid (fun (X W : World) (hW : Below X.heap.size X W) => far_ints (rsts_any t a b v W) hW)
        have hsl := sts_le (t, a, b, v)
        have J3 := Lib.hid (fun a1 b1 W (hA : LstI W a1 (stsF (t, a, b, v))) (hB : LstI W b1 (stsF (t, a, b, v))) => Calls.below (same_any a1 b1 (stsF (t, a, b, v)) (stsF (t, a, b, v)) (by omega) W hA hB))
        generalize stsF (t, a, b, v) = S at J1 J2 J3
        rw [decide_eq_true (rfl : S = S)] at J3
        clear hf hp hsl K1 K2 K3 K4 K5
        go_wp2_with fail
        go_region_held3 (fun W => W.cell? ⟨p, o + k * 4, none⟩ = some (.int .i64 t) ∧ W.cell? ⟨p, o + k * 4 + 1, none⟩ = some (.int .i64 a) ∧ W.cell? ⟨p, o + k * 4 + 2, none⟩ = some (.int .i64 b) ∧ W.cell? ⟨p, o + k * 4 + 3, none⟩ = some (.int .i64 v)) (first | assumption | (exact ⟨by assumption, by assumption, by assumption, by assumption⟩)) (first
          | (go_at_call 15; with_reducible refine (J1.out _ (by first | exact Below.refl _ _ | exact (Below.refl _ _).drew)).mono ?_; rintro e wa ⟨ua, rfl, la, ba⟩; have y0 := (ba.cell (p := ⟨p, o + k * 4, none⟩) HP.out).trans M0.out; have y1 := (ba.cell (p := ⟨p, o + k * 4 + 1, none⟩) HP.out).trans M1.out; have y2 := (ba.cell (p := ⟨p, o + k * 4 + 2, none⟩) HP.out).trans M2.out; have y3 := (ba.cell (p := ⟨p, o + k * 4 + 3, none⟩) HP.out).trans M3.out; have LA := Lib.hid la; have BA := Lib.hid ba; clear la ba)
          | (go_at_call 16; with_reducible refine (J2.out wa _ (by first | exact Below.refl _ _ | exact (Below.refl _ _).drew)).mono ?_; rintro e wb ⟨ub, rfl, lb, bb⟩; have BA := Lib.hid (BA.out.trans (bb.mono BA.out.size)); have z0 := (BA.out.cell (p := ⟨p, o + k * 4, none⟩) HP.out).trans M0.out; have z1 := (BA.out.cell (p := ⟨p, o + k * 4 + 1, none⟩) HP.out).trans M1.out; have z2 := (BA.out.cell (p := ⟨p, o + k * 4 + 2, none⟩) HP.out).trans M2.out; have z3 := (BA.out.cell (p := ⟨p, o + k * 4 + 3, none⟩) HP.out).trans M3.out; have LA := Lib.hid (LA.out.below bb); have LB := Lib.hid lb; clear lb bb)
          | (go_at_call 14; with_reducible refine (J3.out _ _ _ (by first | exact LA.out | exact LA.out.below (Below.refl _ _).drew) (by first | exact LB.out | exact LB.out.below (Below.refl _ _).drew)).mono ?_; rintro e wc ⟨rfl, bc⟩; have BA := Lib.hid (BA.out.trans (bc.mono BA.out.size)); have x0 := (BA.out.cell (p := ⟨p, o + k * 4, none⟩) HP.out).trans M0.out; have x1 := (BA.out.cell (p := ⟨p, o + k * 4 + 1, none⟩) HP.out).trans M1.out; have x2 := (BA.out.cell (p := ⟨p, o + k * 4 + 2, none⟩) HP.out).trans M2.out; have x3 := (BA.out.cell (p := ⟨p, o + k * 4 + 3, none⟩) HP.out).trans M3.out; clear bc))
        all_goals
          have B3 : Hid (Below w1.heap.size w1 wc) := HB.out.trans (BA.out.mono HB.out.size)
          clear x0 x1 x2 x3 y0 y1 y2 y3 z0 z1 z2 z3 J1 J2 J3 BA LA LB M0 M1 M2 M3 m0 m1 m2 m3
          go_wp2_with fail
          go_roundw
          case rel => exact ⟨k + 1, by go_num, by omega, B3⟩
          case measure => simp [intOf]; omega
      · have d : decide (k < l.length) = false := by rw [decide_eq_false_iff_not]; exact hlt
        have B2 : Hid (Below w.heap.size w wr) := B1.out.trans (HB.out.mono B1.out.size)
        have H2 := Lib.hid (H1.out.below HB.out)
        generalize repF tr l = q at K4 K5
        clear hlt HB H1
        go_wp2_with fail
        refine (K1.out _ H2.out).mono ?_
        rintro e w3 ⟨u3, rfl, l3, b3⟩
        have B3 : Hid (Below w.heap.size w w3) := B2.out.trans (b3.mono B2.out.size)
        have H3 := Lib.hid (H2.out.below b3)
        have L3 := Lib.hid l3
        clear b3 l3 K1 H2 B2
        go_wp2_with fail
        refine (K2.out _ H3.out).mono ?_
        rintro e w4 ⟨u4, rfl, o4, b4⟩
        have B4 : Hid (Below w.heap.size w w4) := B3.out.trans (b4.mono B3.out.size)
        have H4 := Lib.hid (H3.out.below b4)
        have L4 := Lib.hid (L3.out.below b4)
        have M4 := Lib.hid (OwnI.lst o4)
        clear b4 o4 K2 H3 B3 L3
        go_wp2_with fail
        refine (K3.out _ _ _ L4.out M4.out).mono ?_
        rintro e w5 ⟨rfl, b5⟩
        have B5 : Hid (Below w.heap.size w w5) := B4.out.trans (b5.mono B4.out.size)
        have H5 := Lib.hid (H4.out.below b5)
        clear b5 K3 H4 B4 L4 M4
        go_wp2_with fail
        refine (K4.out _ H5.out).mono ?_
        rintro e w6 ⟨rfl, b6⟩
        have B6 : Hid (Below w.heap.size w w6) := B5.out.trans (b6.mono B5.out.size)
        have H6 := Lib.hid (H5.out.below b6)
        clear b6 K4 H5 B5
        go_wp2_with fail
        refine (K5.out _ H6.out).mono ?_
        rintro e w' ⟨rfl, rfl⟩
        have tq : (q == q) = true := by simp
        go_wp2_with fail
        refine (ex_any _).mono ?_
        rintro e x9 ⟨rfl, y9⟩
        have B9 : Hid (Below w.heap.size w x9) := B6.out.trans (y9.mono B6.out.size)
        clear y9
        go_wp2_with fail
        go_ret
        exact ⟨rfl, B9.out⟩
set_option maxRecDepth 100000 in
set_option maxHeartbeats 8000000 in
theorem shifts_law (s : ByteArray) (r c : Int) (q : Bool) (v : Value) (l : List Cl) (hl : l.length ≤ 9223372036854775807) (hs : OkS l) (st : Int) (w : World) (h : LstC w v l) : Calls Try.prog 5 #[.agg #[.string s, .int .i64 r, .int .i64 c, .bool q, v], .int .i64 st] w fun e w' => e = .returned (.bool true) ∧ Below w.heap.size w w' := by
  obtain ⟨w7, hw7⟩ : ∃ W, w.alloc (boxT s r c q v) = W := ⟨_, rfl⟩
  obtain ⟨b7, p0, p1, p2, p3, p4, s7⟩ := box_tp hw7
  have r7 : w7.heap[w.heap.size]? = some (boxT s r c q v) := by rw [← hw7]; exact heap_alloc_new _ _
  have B7 : Hid (Below w.heap.size w w7) := b7
  have H7 := Lib.hid (h.below b7)
  obtain ⟨w8, hw8⟩ : ∃ W, w7.alloc (.cells #[.string s, .int .i64 r, .int .i64 c, .bool q, v] 39 (0, 0)) = W := ⟨_, rfl⟩
  have b8 : Below w7.heap.size w7 w8 := by rw [← hw8]; exact (Below.refl _ _).alloc (Nat.le_refl _) _
  have hsl : str s.data.toList = s := str_list s
  have l8 : LstTp w8 (.slice (some ⟨w7.heap.size, 0, none⟩) 1 1) [(s.data.toList, r, c, q, v, l)] := by
    refine ⟨?_, fun x hx => ?_⟩
    · rw [← hw8]
      exact lstG_lit w7 _ _ [(s.data.toList, r, c, q, v, l)] (by simp [fl, te, hsl]) 1 rfl
    · rw [List.mem_singleton.1 hx]
      exact ⟨H7.out.below b8, hl, hs⟩
  have B8 : Hid (Below w.heap.size w w8) := B7.out.trans (b8.mono B7.out.size)
  have R8 : Hid (w8.heap[w.heap.size]? = some (boxT s r c q v)) := (b8.block _ s7).trans r7
  have H8 := Lib.hid (H7.out.below b8)
  have Z8 : Hid (w.heap.size < w8.heap.size) := Nat.lt_of_lt_of_le s7 b8.size
  have P1 := Lib.hid (plain_any _ _ w8 l8)
  clear b7 b8 l8 hsl r7 H7 B7
  cases h2 : plnT [(s.data.toList, r, c, q, v, l)] with
  | false =>
    rw [h2] at P1
    obtain ⟨A, n, rfl, -, -, -⟩ := h
    clear h2 hs
    go_enter Try.func5, Try.ntmps5
    go_wp2_with fail
    refine P1.out.mono ?_
    rintro e w' ⟨rfl, rfl⟩
    clear P1
    go_wp2_with fail
    refine (ex_any _).mono ?_
    rintro e x9 ⟨rfl, y9⟩
    have B9 : Hid (Below w.heap.size w x9) := B8.out.trans (y9.mono B8.out.size)
    clear y9
    go_wp2_with fail
    go_ret
    exact ⟨rfl, B9.out⟩
  | true =>
    rw [h2] at P1
    have hll : l.length ≤ 40 := (pln_is h2).2 _ List.mem_cons_self
    have K := Lib.hid (fun W hW => kcalls_any s r c q v l (by omega) hs st W hW)
    have R := Lib.hid (fun W hW => rcalls_any s r c q v l (by omega) hs st W hW)
    have hal := ans_len (l := l) (st := st)
    have S := Lib.hid (fun a b W (hA : LstC W a (ansC l st)) (hB : LstC W b (ansC l st)) => Calls.below (rsame_any a b (ansC l st) (ansC l st) (by omega) W hA hB))
    generalize ansC l st = E at K R S
    rw [decide_eq_true (rfl : E = E)] at S
    generalize errC l st = z at K R
    have tz := beq_true (a := z) rfl
    obtain ⟨A, n, rfl, -, -, -⟩ := h
    clear h2 hs hal
    go_enter Try.func5, Try.ntmps5
    go_wp2_with fail
    refine P1.out.mono ?_
    rintro e w' ⟨rfl, rfl⟩
    clear P1 p0 p1 p2 p3 p4 hw7 hw8
    obtain ⟨p0, p1, p2, p3, p4⟩ := row_tp R8.out
    go_wp2_with fail
    refine (K.out _ H8.out).mono ?_
    rintro e w1 ⟨u1, rfl, o1, b1⟩
    have B1 : Hid (Below w.heap.size w w1) := B8.out.trans (b1.mono B8.out.size)
    have R1 : Hid (w1.heap[w.heap.size]? = some (boxT s r c q (.slice A l.length n))) := (b1.block _ Z8.out).trans R8.out
    have H1 := Lib.hid (H8.out.below b1)
    have L1 := Lib.hid (OwnG.lst o1)
    clear b1 o1 K H8 R8 B8 p0 p1 p2 p3 p4
    obtain ⟨p0, p1, p2, p3, p4⟩ := row_tp R1.out
    go_wp2_with fail
    refine (R.out _ H1.out).mono ?_
    rintro e w2 ⟨u2, rfl, o2, b2⟩
    have B2 : Hid (Below w.heap.size w w2) := B1.out.trans (b2.mono B1.out.size)
    have L2 := Lib.hid (L1.out.below b2)
    have M2 := Lib.hid (OwnG.lst o2)
    clear b2 o2 R H1 R1 B1 p0 p1 p2 p3 p4 L1
    go_wp2_with fail
    refine (S.out _ _ _ L2.out M2.out).mono ?_
    rintro e w3 ⟨rfl, b3⟩
    have B3 : Hid (Below w.heap.size w w3) := B2.out.trans (b3.mono B2.out.size)
    clear b3 S L2 M2 B2
    go_wp2_with fail
    refine (ex_any _).mono ?_
    rintro e x9 ⟨rfl, y9⟩
    have B9 : Hid (Below w.heap.size w x9) := B3.out.trans (y9.mono B3.out.size)
    clear y9
    go_wp2_with fail
    go_ret
    exact ⟨rfl, B9.out⟩
end Go.Proofs.Ytahnaidkobodaaa
