/-
  The laws FrequencyRuns: each answers true for every input; nothing that existed before the call has changed behind it. Condition: lengths of 63 bits.
-/
import Derived.Test.YtahnaidkobodaaaHzL
namespace Go.Proofs.Ytahnaidkobodaaa
open Go.RowKit

theorem far_callsL {f : FuncId} {args : Array Value} {w W : World} {l : List Cl} {z : Int} (h : Calls Try.prog f args W fun e w' => ∃ u, e = .returned (.tuple #[u, .int .i64 z]) ∧ OwnC w' W.heap.size u l ∧ Below W.heap.size W w') (hb : Below w.heap.size w W) : Calls Try.prog f args W fun e w' => ∃ u, e = .returned (.tuple #[u, .int .i64 z]) ∧ LstC w' u l ∧ Below w.heap.size w w' :=
  h.mono fun _ _ ⟨u, h1, h2, h3⟩ => ⟨u, h1, OwnG.lst h2, hb.trans (h3.mono hb.size)⟩
set_option maxRecDepth 100000 in
set_option maxHeartbeats 8000000 in
theorem runs_law (vl : Value) (l : List Fq) (_ : l.length ≤ 9223372036854775807) (_ : OkFs l) (vt : Value) (ts : List Tp) (htl : ts.length ≤ 9223372036854775807) (_ : OkTs ts) (w : World) (h : LstF w vl l) (ht : LstTp w vt ts) : Calls Try.prog 7 #[vl, vt] w fun e w' => e = .returned (.bool true) ∧ Below w.heap.size w w' := by
  have C1 := Lib.hid (rmny_any vl l 3000 w h)
  have H := Lib.hid h
  have HT := Lib.hid ht
  obtain ⟨A, n, rfl, -, -, -⟩ := id h
  obtain ⟨⟨D, m, rfl, -, -, -⟩, -⟩ := id ht
  clear h ht
  cases h1 : mnyF l 3000 with
  | true =>
    rw [h1] at C1
    clear h1
    go_enter Try.func7, Try.ntmps7
    go_wp2_with fail
    refine C1.out.mono ?_
    rintro e w1 ⟨rfl, b1⟩
    have B1 : Hid (Below w.heap.size w w1) := b1
    clear b1 C1
    go_wp2_with fail
    refine (ex_any _).mono ?_
    rintro e x9 ⟨rfl, y9⟩
    have B9 : Hid (Below w.heap.size w x9) := B1.out.trans (y9.mono B1.out.size)
    clear y9
    go_wp2_with fail
    go_ret
    exact ⟨rfl, B9.out⟩
  | false =>
    rw [h1] at C1
    have hll := (mny_no h1).1
    have P1 := Lib.hid (fun W hW => plain_any (.slice D ts.length m) ts W hW)
    clear h1
    cases h2 : plnT ts with
    | false =>
      rw [h2] at P1
      clear h2
      go_enter Try.func7, Try.ntmps7
      go_wp2_with fail
      refine C1.out.mono ?_
      rintro e w1 ⟨rfl, b1⟩
      have B1 : Hid (Below w.heap.size w w1) := b1
      have T1 := Lib.hid (HT.out.below b1)
      clear b1 C1
      go_wp2_with fail
      refine (P1.out _ T1.out).mono ?_
      rintro e w' ⟨rfl, rfl⟩
      clear T1 P1
      go_wp2_with fail
      refine (ex_any _).mono ?_
      rintro e x9 ⟨rfl, y9⟩
      have B9 : Hid (Below w.heap.size w x9) := B1.out.trans (y9.mono B1.out.size)
      clear y9
      go_wp2_with fail
      go_ret
      exact ⟨rfl, B9.out⟩
    | true =>
      rw [h2] at P1
      have hts := (pln_is h2).2
      have htn := (pln_is h2).1
      have V1 := Lib.hid (fun W hW => valid_any (.slice D ts.length m) ts htl W hW)
      clear h2
      have K := Lib.hid (fun W hW hX => kchk_any (.slice A l.length n) l (by omega) (.slice D ts.length m) ts (fun x hx => Nat.le_trans (hts x hx) (by decide)) W hW hX)
      obtain ⟨q, hq⟩ : ∃ q, (chkF (ts.map clT) l).2 = q := ⟨_, rfl⟩
      rw [hq] at K
      have HQ := Lib.hid hq
      generalize (chkF (ts.map clT) l).1 = p at K
      have HTS := Lib.hid hts
      clear hts hq
      go_enter Try.func7, Try.ntmps7
      go_wp2_with fail
      refine C1.out.mono ?_
      rintro e w1 ⟨rfl, b1⟩
      have B1 : Hid (Below w.heap.size w w1) := b1
      have T1 := Lib.hid (HT.out.below b1)
      have H1 := Lib.hid (H.out.below b1)
      clear b1 C1 H HT
      go_wp2_with fail
      refine (P1.out _ T1.out).mono ?_
      rintro e w' ⟨rfl, rfl⟩
      go_wp2_with fail
      refine (V1.out _ T1.out).mono ?_
      rintro e w2 ⟨⟨r, rfl, hr⟩, b2⟩
      have B2 : Hid (Below w.heap.size w w2) := B1.out.trans (b2.mono B1.out.size)
      have T2 := Lib.hid (T1.out.below b2)
      have H2 := Lib.hid (H1.out.below b2)
      clear b2 V1 P1 T1 H1 B1
      cases r with
      | false =>
        clear hr T2 H2
        go_wp2_with fail
        refine (ex_any _).mono ?_
        rintro e x9 ⟨rfl, y9⟩
        have B9 : Hid (Below w.heap.size w x9) := B2.out.trans (y9.mono B2.out.size)
        clear y9
        go_wp2_with fail
        go_ret
        exact ⟨rfl, B9.out⟩
      | true =>
        have two := hr rfl
        clear hr
        have TWO := Lib.hid two
        clear two
        by_cases nq0 : ¬ q = 0
        · have hq0 := nq0
          have t := bne_true hq0
          clear hq0 nq0 HTS TWO
          go_wp2_with fail
          refine (K.out _ H2.out T2.out).mono ?_
          rintro e w3 ⟨rfl, b3⟩
          have B3 : Hid (Below w.heap.size w w3) := B2.out.trans (b3.mono B2.out.size)
          clear b3 K T2 H2 B2
          go_wp2_with fail
          refine (ex_any _).mono ?_
          rintro e x9 ⟨rfl, y9⟩
          have B9 : Hid (Below w.heap.size w x9) := B3.out.trans (y9.mono B3.out.size)
          clear y9
          go_wp2_with fail
          go_ret
          exact ⟨rfl, B9.out⟩
        have hq0 := Decidable.not_not.1 nq0
        clear nq0
        have ACC : Hid ((chkF (ts.map clT) l).2 = 0) := HQ.out.trans hq0
        have t := neq_false hq0
        clear hq0 HQ
        go_wp2_with fail
        refine (K.out _ H2.out T2.out).mono ?_
        rintro e w3 ⟨rfl, b3⟩
        have B3 : Hid (Below w.heap.size w w3) := B2.out.trans (b3.mono B2.out.size)
        have T3 := Lib.hid (T2.out.below b3)
        have H3 := Lib.hid (H2.out.below b3)
        clear b3 K T2 H2 B2
        go_wp2_with fail
        clear t
        go_loopw [7] (fun i wr => ∃ k : Nat, i = .int .i64 k ∧ k ≤ ts.length ∧ Hid (Below w3.heap.size w3 wr)) (fun i _ => ts.length - (intOf i).toNat)
        case atStart => exact ⟨0, rfl, Nat.zero_le _, Lib.hid (Below.refl _ _)⟩
        case round =>
          obtain ⟨x, rfl, hk, HB⟩ := hrel
          by_cases hlt : x < ts.length
          · obtain ⟨⟨id, rr, kk, ff, cv, cl⟩, hx⟩ := at_lt hlt
            obtain ⟨nm, hnm⟩ : ∃ nm, str id = nm := ⟨_, rfl⟩
            have gx : (x : Int) < (ts.length : Int) := by omega
            have hcl : cl.length ≤ 40 := HTS.out _ (List.mem_iff_getElem?.2 ⟨x, hx⟩)
            have hc2 : 2 ≤ cl.length := TWO.out _ (List.mem_iff_getElem?.2 ⟨x, hx⟩)
            have FIT := Lib.hid (fun z (hz : z ∈ insF (x : Int) l) => acc_fits ACC.out (n := x) (c := cl) (by rw [List.getElem?_map, hx]; rfl) hz)
            have I1 := Lib.hid (fun W hW => kinst_any (.slice A l.length n) l (by omega) (x : Int) W hW)
            have I2 := Lib.hid (fun W hW => krep_any (.slice A l.length n) l (by omega) (x : Int) W hW)
            have M1 := acc_most ACC.out (x : Int)
            have M2 := acc_rep ACC.out (x : Int)
            have UP := Lib.hid (fun i y z h1 h2 => srt_less (acc_nodup ACC.out (x : Int)) (i := i) (x := y) (y := z) h1 h2)
            have MEM := Lib.hid (fun z => (srtI_mem (insF (x : Int) l) z).1)
            rw [← srtI_len] at M1 M2
            generalize srtI (insF (x : Int) l) = E at I1 M1 M2 UP MEM
            generalize insF (x : Int) l = F at FIT MEM
            generalize repF (x : Int) l = r at I2 M2
            have e0 : decide ((0 : Int) < (E.length : Int)) = r := by rw [← M2]; exact decide_eq_decide.2 (by omega)
            have e1 : decide ((256 : Int) < (E.length : Int)) = false := decide_eq_false (by omega)
            have e1' : decide (256 < E.length) = false := decide_eq_false (by omega)
            have HX := Lib.hid hx
            have HNM := Lib.hid hnm
            have H4 := Lib.hid (H3.out.below HB.out)
            clear hx hnm
            go_wp2_with fail
            refine (I1.out _ H4.out).mono ?_
            rintro e w4 ⟨u4, rfl, l4, b4⟩
            have B4 : Hid (Below w3.heap.size w3 w4) := HB.out.trans (b4.mono HB.out.size)
            have L4 := Lib.hid l4
            have H5 := Lib.hid (H4.out.below b4)
            obtain ⟨AE, cE, rfl, -⟩ := l4
            clear b4 I1 H4 HB
            go_wp2_with fail
            refine (I2.out _ H5.out).mono ?_
            rintro e w5 ⟨rfl, b5⟩
            have B5 : Hid (Below w3.heap.size w3 w5) := B4.out.trans (b5.mono B4.out.size)
            have L5 := Lib.hid (L4.out.below b5)
            have T5 := Lib.hid (T3.out.below B5.out)
            clear b5 I2 H5 B4 L4
            go_wp2_with fail
            clear e0 e1 e1' M2
            go_loopw [9] (fun j wr => ∃ k : Nat, j = .int .i64 k ∧ k ≤ E.length ∧ Hid (Below w5.heap.size w5 wr)) (fun j _ => E.length - (intOf j).toNat)
            case atStart => exact ⟨0, rfl, Nat.zero_le _, Lib.hid (Below.refl _ _)⟩
            case round =>
              obtain ⟨k, rfl, hk, HW⟩ := hrel
              by_cases hkt : k < E.length
              · obtain ⟨z, hz⟩ := at_lt hkt
                have gk : (k : Int) < (E.length : Int) := by omega
                obtain ⟨eb, eo, rfl, heb, c0⟩ := int_cell (L5.out.below HW.out) hz
                have fz : fitC cl z = true := FIT.out z (MEM.out z (List.mem_iff_getElem?.2 ⟨k, hz⟩))
                have HZ := Lib.hid hz
                have HEB := Lib.hid heb
                have FZ := Lib.hid fz
                clear hz heb fz
                by_cases hk0 : k = 0
                · subst hk0
                  rw [Nat.add_zero] at c0
                  go_wp2_with fail
                  go_quiet (fail)
                  have b6 := below_drewN (Below.refl wr.heap.size wr) nq
                  generalize wr.drewN nq = w6 at b6 ⊢
                  have W6 : Hid (Below w5.heap.size w5 w6) := HW.out.trans (b6.mono HW.out.size)
                  have T6 := Lib.hid (T5.out.below W6.out)
                  have HEB6 : Hid (eb < w6.heap.size) := Nat.lt_of_lt_of_le HEB.out b6.size
                  have c6 := (b6.cell (p := ⟨eb, eo, none⟩) HEB.out).trans c0
                  have C6 := Lib.hid c6
                  obtain ⟨bt, ot, BB, mm, e7, rfl, hbt, r0, r1, r2, r3, r4, lc, -, oc⟩ := trip_at T6.out HX.out HNM.out
                  subst e7
                  have R0 := Lib.hid r0
                  have R1 := Lib.hid r1
                  have R2 := Lib.hid r2
                  have R3 := Lib.hid r3
                  have R4 := Lib.hid r4
                  have HBT := Lib.hid hbt
                  have KC := Lib.hid (fun W (hW : Below w6.heap.size w6 W) => far_callsL (kcalls_any nm rr kk ff (.slice BB cl.length mm) cl (by omega) oc z W (lc.below hW)) hW)
                  rw [err_yes (show cl.length ≠ 0 by omega) FZ.out, ans_yes FZ.out] at KC
                  clear b6 hbt HW lc oc
                  go_wp2_with fail
                  go_region_held3 (fun W => W.cell? ⟨bt, ot + x * 5, none⟩ = some (.string nm) ∧ W.cell? ⟨bt, ot + x * 5 + 1, none⟩ = some (.int .i64 rr) ∧ W.cell? ⟨bt, ot + x * 5 + 2, none⟩ = some (.int .i64 kk) ∧ W.cell? ⟨bt, ot + x * 5 + 3, none⟩ = some (.bool ff) ∧ W.cell? ⟨bt, ot + x * 5 + 4, none⟩ = some (.slice BB cl.length mm) ∧ W.cell? ⟨eb, eo, none⟩ = some (.int .i64 z)) (first | assumption | (exact ⟨by assumption, by assumption, by assumption, by assumption, by assumption, by assumption⟩)) (first
                    | (go_at_call 21; with_reducible refine (KC.out _ (by first | exact Below.refl _ _ | exact (Below.refl _ _).drew)).mono ?_; rintro e w7 ⟨u7, rfl, l7, b7⟩; have x0 := (b7.cell (p := ⟨bt, ot + x * 5, none⟩) HBT.out).trans R0.out; have x1 := (b7.cell (p := ⟨bt, ot + x * 5 + 1, none⟩) HBT.out).trans R1.out; have x2 := (b7.cell (p := ⟨bt, ot + x * 5 + 2, none⟩) HBT.out).trans R2.out; have x3 := (b7.cell (p := ⟨bt, ot + x * 5 + 3, none⟩) HBT.out).trans R3.out; have x4 := (b7.cell (p := ⟨bt, ot + x * 5 + 4, none⟩) HBT.out).trans R4.out; have x5 := (b7.cell (p := ⟨eb, eo, none⟩) HEB6.out).trans C6.out))
                  all_goals
                    have W7 : Hid (Below w5.heap.size w5 w7) := W6.out.trans (b7.mono W6.out.size)
                    obtain ⟨A7, c7, rfl, -⟩ := l7
                    rw [run_len]
                    have tl := neq_false (a := (cl.length : Int)) (b := (cl.length : Int)) rfl
                    clear b7 KC R0 R1 R2 R3 R4 C6 W6 r0 r1 r2 r3 r4 c6 c0
                    go_wp2_with fail
                    go_roundw
                    case rel => exact ⟨1, by go_num, by omega, W7⟩
                    case measure => simp [intOf]; omega
                · obtain ⟨r, hr⟩ : ∃ r, k - 1 = r := ⟨_, rfl⟩
                  obtain ⟨y, hy⟩ := at_lt (l := E) (k := r) (by omega)
                  obtain ⟨eb', eo', e', -, c1⟩ := int_cell (L5.out.below HW.out) hy
                  cases e'
                  have lt := UP.out r y z hy (by rw [show r + 1 = k by omega]; exact HZ.out)
                  have dl : decide (z ≤ y) = false := decide_eq_false (by omega)
                  have eL : (k : Int) - 1 = (r : Int) := by omega
                  have wL : IntKind.i64.wrap (r : Int) = (r : Int) := IntWalk.i64_in _ (by omega)
                  have gr : (r : Int) < (E.length : Int) := by omega
                  have gp : (0 : Int) < (k : Int) := by omega
                  have gp' : 0 < k := by omega
                  clear hy hr lt hk0
                  go_wp2_with fail
                  go_quiet (fail)
                  clear dl eL wL gr c1
                  have b6 := below_drewN (Below.refl wr.heap.size wr) nq
                  generalize wr.drewN nq = w6 at b6 ⊢
                  have W6 : Hid (Below w5.heap.size w5 w6) := HW.out.trans (b6.mono HW.out.size)
                  have T6 := Lib.hid (T5.out.below W6.out)
                  have HEB6 : Hid (eb < w6.heap.size) := Nat.lt_of_lt_of_le HEB.out b6.size
                  have c6 := (b6.cell (p := ⟨eb, eo + k, none⟩) HEB.out).trans c0
                  have C6 := Lib.hid c6
                  obtain ⟨bt, ot, BB, mm, e7, rfl, hbt, r0, r1, r2, r3, r4, lc, -, oc⟩ := trip_at T6.out HX.out HNM.out
                  subst e7
                  have R0 := Lib.hid r0
                  have R1 := Lib.hid r1
                  have R2 := Lib.hid r2
                  have R3 := Lib.hid r3
                  have R4 := Lib.hid r4
                  have HBT := Lib.hid hbt
                  have KC := Lib.hid (fun W (hW : Below w6.heap.size w6 W) => far_callsL (kcalls_any nm rr kk ff (.slice BB cl.length mm) cl (by omega) oc z W (lc.below hW)) hW)
                  rw [err_yes (show cl.length ≠ 0 by omega) FZ.out, ans_yes FZ.out] at KC
                  clear b6 hbt HW lc oc
                  go_wp2_with fail
                  go_region_held3 (fun W => W.cell? ⟨bt, ot + x * 5, none⟩ = some (.string nm) ∧ W.cell? ⟨bt, ot + x * 5 + 1, none⟩ = some (.int .i64 rr) ∧ W.cell? ⟨bt, ot + x * 5 + 2, none⟩ = some (.int .i64 kk) ∧ W.cell? ⟨bt, ot + x * 5 + 3, none⟩ = some (.bool ff) ∧ W.cell? ⟨bt, ot + x * 5 + 4, none⟩ = some (.slice BB cl.length mm) ∧ W.cell? ⟨eb, eo + k, none⟩ = some (.int .i64 z)) (first | assumption | (exact ⟨by assumption, by assumption, by assumption, by assumption, by assumption, by assumption⟩)) (first
                    | (go_at_call 21; with_reducible refine (KC.out _ (by first | exact Below.refl _ _ | exact (Below.refl _ _).drew)).mono ?_; rintro e w7 ⟨u7, rfl, l7, b7⟩; have x0 := (b7.cell (p := ⟨bt, ot + x * 5, none⟩) HBT.out).trans R0.out; have x1 := (b7.cell (p := ⟨bt, ot + x * 5 + 1, none⟩) HBT.out).trans R1.out; have x2 := (b7.cell (p := ⟨bt, ot + x * 5 + 2, none⟩) HBT.out).trans R2.out; have x3 := (b7.cell (p := ⟨bt, ot + x * 5 + 3, none⟩) HBT.out).trans R3.out; have x4 := (b7.cell (p := ⟨bt, ot + x * 5 + 4, none⟩) HBT.out).trans R4.out; have x5 := (b7.cell (p := ⟨eb, eo + k, none⟩) HEB6.out).trans C6.out))
                  all_goals
                    have W7 : Hid (Below w5.heap.size w5 w7) := W6.out.trans (b7.mono W6.out.size)
                    obtain ⟨A7, c7, rfl, -⟩ := l7
                    rw [run_len]
                    have tl := neq_false (a := (cl.length : Int)) (b := (cl.length : Int)) rfl
                    clear b7 KC R0 R1 R2 R3 R4 C6 W6 r0 r1 r2 r3 r4 c6 c0
                    go_wp2_with fail
                    go_roundw
                    case rel => exact ⟨k + 1, by go_num, by omega, W7⟩
                    case measure => simp [intOf]; omega
              · have d : decide (k < E.length) = false := by rw [decide_eq_false_iff_not]; exact hkt
                have B6 : Hid (Below w3.heap.size w3 wr) := B5.out.trans (HW.out.mono B5.out.size)
                clear hkt HW L5 T5
                go_wp2_with fail
                go_roundw
                case rel => exact ⟨x + 1, by go_num, by omega, B6⟩
                case measure => simp [intOf]; omega
          · have d : decide (x < ts.length) = false := by rw [decide_eq_false_iff_not]; exact hlt
            have B4 : Hid (Below w.heap.size w wr) := B3.out.trans (HB.out.mono B3.out.size)
            clear hlt HB
            go_wp2_with fail
            refine (ex_any _).mono ?_
            rintro e x9 ⟨rfl, y9⟩
            have B9 : Hid (Below w.heap.size w x9) := B4.out.trans (y9.mono B4.out.size)
            clear y9
            go_wp2_with fail
            go_ret
            exact ⟨rfl, B9.out⟩
end Go.Proofs.Ytahnaidkobodaaa
