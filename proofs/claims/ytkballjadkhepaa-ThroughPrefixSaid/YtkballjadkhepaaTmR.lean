/-
  The through service with an index, and Check, of the reference of package through: what each call answers; nothing that existed before the call has changed behind it. Condition: at most 900000 through services, at most 1000 frequencies, at most 1000000 trips of at most 1000000 calls.
-/
import Derived.Test.YtkballjadkhepaaTmK
namespace Go.Proofs.Ytkballjadkhepaa
open Go.RowKit

set_option maxRecDepth 100000 in
set_option maxHeartbeats 2000000 in
theorem rone_any (vl : Value) (l : List Th) (hl : l.length ≤ 900000) (vt : Value) (ts : List Tp) (_ : ts.length ≤ 1000000) (hts : ∀ x ∈ ts, x.2.2.2.2.2.length ≤ 1000000) (vf : Value) (f : List Fq) (hf : f.length ≤ 1000) (k : Nat) (hk : k < l.length) (a b : Int) (hx : l[k]? = some (a, b)) (w : World) (h1 : LstH w vl l) (h2 : LstTp w vt ts) (h3 : LstF w vf f) :
    Calls Try.prog 28 #[vl, .int .i64 (k : Int), vt, vf] w fun e w' => e = .returned (.int .i64 (thE (ts.map tcT) f (l.take k) (a, b))) ∧ Below w.heap.size w w' := by
  have H1 := Lib.hid h1
  have H2 := Lib.hid h2
  have H3 := Lib.hid h3
  have HTS := Lib.hid hts
  have hlen : (ts.map tcT).length = ts.length := List.length_map ..
  obtain ⟨c, o, e0, hc, r0, r1⟩ : ∃ c o, (∃ n, vl = .slice (some ⟨c, o, none⟩) l.length n) ∧ c < w.heap.size ∧ w.cell? ⟨c, o + k * 2, none⟩ = some (.int .i64 a) ∧ w.cell? ⟨c, o + k * 2 + 1, none⟩ = some (.int .i64 b) := by
    obtain ⟨A, n, rfl, -, -, -⟩ := id h1
    obtain ⟨c, o, rfl, hc, r0, r1⟩ := two_hh h1 hx
    exact ⟨c, o, ⟨n, rfl⟩, hc, r0, r1⟩
  obtain ⟨n, rfl⟩ := e0
  obtain ⟨⟨B, m, rfl, -, -, -⟩, -⟩ := h2
  obtain ⟨D, r, rfl, -, -, -⟩ := h3
  have gk : (k : Int) < (l.length : Int) := by omega
  obtain ⟨w7, hw7⟩ : ∃ W, w.alloc (boxH a b) = W := ⟨_, rfl⟩
  obtain ⟨b7, p0, p1, s7, -⟩ := box_hh hw7
  have W7 : Hid (Below w.heap.size w w7) := b7
  have HX := Lib.hid hx
  have S7 := Lib.hid s7
  obtain ⟨Q, hQ⟩ : ∃ Q, thE (ts.map tcT) f (l.take k) (a, b) = Q := ⟨_, rfl⟩
  rw [hQ]
  have HQ := Lib.hid hQ
  have TP := Lib.hid (th_pair (ts := ts.map tcT) (f := f) (seen := l.take k) (x := (a, b)))
  have HLEN := Lib.hid hlen
  rw [hlen] at TP
  clear b7 hx hts s7 hQ hlen hc
  by_cases n1 : ¬ (0 ≤ a ∧ a < (ts.length : Int))
  · have R : Hid (Q = 9) := HQ.out.symm.trans ((TP.out (by rw [pr_a n1]; decide)).trans (pr_a n1))
    have X := Lib.hid (fun W => risx_no a (ts.length : Int) n1 W)
    clear n1 TP HQ
    go_enter Try.func28, Try.ntmps28
    go_wp2_with fail
    refine (X.out _).mono ?_
    rintro e w' ⟨rfl, rfl⟩
    go_wp2_with fail
    go_ret
    exact ⟨ret_int (by rw [R.out]), W7.out⟩
  have n1 := Decidable.not_not.1 n1
  have X := Lib.hid (fun W => risx_yes a (ts.length : Int) n1 W)
  by_cases n2 : ¬ (0 ≤ b ∧ b < (ts.length : Int))
  · have R : Hid (Q = 9) := HQ.out.symm.trans ((TP.out (by rw [pr_b n2]; decide)).trans (pr_b n2))
    have Y := Lib.hid (fun W => risx_no b (ts.length : Int) n2 W)
    clear n1 n2 TP HQ
    go_enter Try.func28, Try.ntmps28
    go_wp2_with fail
    refine (X.out _).mono ?_
    rintro e w' ⟨rfl, rfl⟩
    go_wp2_with fail
    refine (Y.out _).mono ?_
    rintro e w' ⟨rfl, rfl⟩
    go_wp2_with fail
    go_ret
    exact ⟨ret_int (by rw [R.out]), W7.out⟩
  have n2 := Decidable.not_not.1 n2
  have Y := Lib.hid (fun W => risx_yes b (ts.length : Int) n2 W)
  by_cases n3 : a = b
  · have R : Hid (Q = 9) := HQ.out.symm.trans ((TP.out (by rw [show ((a, b) : Th).1 = ((a, b) : Th).2 from n3, pr_ab rfl]; decide)).trans (pr_ab n3))
    have g3 := beq_true n3
    clear n1 n2 n3 TP HQ
    go_enter Try.func28, Try.ntmps28
    go_wp2_with fail
    refine (X.out _).mono ?_
    rintro e w' ⟨rfl, rfl⟩
    go_wp2_with fail
    refine (Y.out _).mono ?_
    rintro e w' ⟨rfl, rfl⟩
    go_wp2_with fail
    go_ret
    exact ⟨ret_int (by rw [R.out]), W7.out⟩
  have g3 := beq_false n3
  have F1 := Lib.hid (rrep_any (.slice D f.length r) f hf a w7 (H3.out.below W7.out))
  have F2 := Lib.hid (rrep_any (.slice D f.length r) f hf b w7 (H3.out.below W7.out))
  cases n4 : repF a f with
  | true =>
    rw [n4] at F1
    have R : Hid (Q = 17) := HQ.out.symm.trans ((TP.out (by rw [pr_fa n1 n2 n3 n4]; decide)).trans (pr_fa n1 n2 n3 n4))
    clear n1 n2 n3 n4 TP HQ F2
    go_enter Try.func28, Try.ntmps28
    go_wp2_with fail
    refine (X.out _).mono ?_
    rintro e w' ⟨rfl, rfl⟩
    go_wp2_with fail
    refine (Y.out _).mono ?_
    rintro e w' ⟨rfl, rfl⟩
    go_wp2_with fail
    refine F1.out.mono ?_
    rintro e w' ⟨rfl, rfl⟩
    go_wp2_with fail
    go_ret
    exact ⟨ret_int (by rw [R.out]), W7.out⟩
  | false =>
  rw [n4] at F1
  cases n5 : repF b f with
  | true =>
    rw [n5] at F2
    have R : Hid (Q = 17) := HQ.out.symm.trans ((TP.out (by rw [pr_fb n1 n2 n3 n5]; decide)).trans (pr_fb n1 n2 n3 n5))
    clear n1 n2 n3 n4 n5 TP HQ
    go_enter Try.func28, Try.ntmps28
    go_wp2_with fail
    refine (X.out _).mono ?_
    rintro e w' ⟨rfl, rfl⟩
    go_wp2_with fail
    refine (Y.out _).mono ?_
    rintro e w' ⟨rfl, rfl⟩
    go_wp2_with fail
    refine F1.out.mono ?_
    rintro e w' ⟨rfl, rfl⟩
    go_wp2_with fail
    refine F2.out.mono ?_
    rintro e w' ⟨rfl, rfl⟩
    go_wp2_with fail
    go_ret
    exact ⟨ret_int (by rw [R.out]), W7.out⟩
  | false =>
  rw [n5] at F2
  have E1 : Hid (prE (ts.map tcT).length f a b = 0) := by rw [HLEN.out]; exact pr_ok n1 n2 n3 n4 n5
  obtain ⟨i, rfl⟩ : ∃ i : Nat, a = (i : Int) := ⟨a.toNat, by omega⟩
  obtain ⟨j, rfl⟩ : ∃ j : Nat, b = (j : Int) := ⟨b.toNat, by omega⟩
  have gi : (i : Int) < (ts.length : Int) := n1.2
  have gj : (j : Int) < (ts.length : Int) := n2.2
  obtain ⟨⟨xi, xr, xc, xf, xv, xl⟩, tx⟩ := at_lt (l := ts) (k := i) (by omega)
  obtain ⟨⟨yi, yr, yc, yf, yv, yl⟩, ty⟩ := at_lt (l := ts) (k := j) (by omega)
  obtain ⟨xn, hxn⟩ : ∃ s, str xi = s := ⟨_, rfl⟩
  obtain ⟨yn, hyn⟩ : ∃ s, str yi = s := ⟨_, rfl⟩
  have hxl : xl.length ≤ 1000000 := HTS.out _ (List.mem_iff_getElem?.2 ⟨_, tx⟩)
  obtain ⟨bx, ox, Bx, mx, ex, rfl, hbx, x0, x1, x2, x3, x4, lx, -, -⟩ := trip_at (H2.out.below W7.out) tx hxn
  obtain ⟨by_, oy, By, my, ey, rfl, hby, y0, y1, y2, y3, y4, ly, -, -⟩ := trip_at (H2.out.below W7.out) ty hyn
  subst ex
  cases ey
  have LX := Lib.hid lx
  have LY := Lib.hid ly
  have AX := Lib.hid (tc_at tx)
  have AY := Lib.hid (tc_at ty)
  have THP := Lib.hid (th_pass (ts := ts.map tcT) (f := f) (seen := l.take k) (x := ((i : Int), (j : Int))) E1.out)
  rw [show tcA (ts.map tcT) (((i : Int), (j : Int)) : Th).1 = (xc, xl) from AX.out, show tcA (ts.map tcT) (((i : Int), (j : Int)) : Th).2 = (yc, yl) from AY.out] at THP
  have ND := Lib.hid n3
  clear n1 n2 n3 n4 n5 TP tx ty hxn hyn hbx hby lx ly
  go_enter Try.func28, Try.ntmps28
  go_wp2_with fail
  refine (X.out _).mono ?_
  rintro e w' ⟨rfl, rfl⟩
  go_wp2_with fail
  refine (Y.out _).mono ?_
  rintro e w' ⟨rfl, rfl⟩
  go_wp2_with fail
  refine F1.out.mono ?_
  rintro e w' ⟨rfl, rfl⟩
  go_wp2_with fail
  refine F2.out.mono ?_
  rintro e w' ⟨rfl, rfl⟩
  clear F1 F2 X Y hw7
  go_wp2_with fail
  go_region_held3 (fun W => W.cell? ⟨w.heap.size, 0, none⟩ = some (.int .i64 (i : Int)) ∧ W.cell? ⟨w.heap.size, 1, none⟩ = some (.int .i64 (j : Int)) ∧ W.cell? ⟨bx, ox + i * 5, none⟩ = some (.string xn) ∧ W.cell? ⟨bx, ox + i * 5 + 1, none⟩ = some (.int .i64 xr) ∧ W.cell? ⟨bx, ox + i * 5 + 2, none⟩ = some (.int .i64 xc) ∧ W.cell? ⟨bx, ox + i * 5 + 3, none⟩ = some (.bool xf) ∧ W.cell? ⟨bx, ox + i * 5 + 4, none⟩ = some (.slice Bx xl.length mx) ∧ W.cell? ⟨bx, ox + j * 5, none⟩ = some (.string yn) ∧ W.cell? ⟨bx, ox + j * 5 + 1, none⟩ = some (.int .i64 yr) ∧ W.cell? ⟨bx, ox + j * 5 + 2, none⟩ = some (.int .i64 yc) ∧ W.cell? ⟨bx, ox + j * 5 + 3, none⟩ = some (.bool yf) ∧ W.cell? ⟨bx, ox + j * 5 + 4, none⟩ = some (.slice By yl.length my)) (go_keep) (first | fail)
  · obtain ⟨w9, hw9, z9, rx, ry, b9⟩ := box_both w7 (boxT xn xr xc xf (.slice Bx xl.length mx)) (boxT yn yr yc yf (.slice By yl.length my))
    rw [hw9]
    have b9' := b9.drew
    obtain ⟨-, -, u2, -, u4⟩ := row_tp (w := w9.drew) rx
    obtain ⟨-, -, v2, -, v4⟩ := row_tp (w := w9.drew) ry
    have p0 := (b9'.cell (p := ⟨w.heap.size, 0, none⟩) S7.out).trans p0
    have p1 := (b9'.cell (p := ⟨w.heap.size, 1, none⟩) S7.out).trans p1
    have W9 : Hid (Below w.heap.size w w9.drew) := W7.out.trans (b9'.mono W7.out.size)
    have L9 := Lib.hid (LX.out.below b9')
    have M9 := Lib.hid (LY.out.below b9')
    have Z9 : Hid (w.heap.size < w9.drew.heap.size ∧ w7.heap.size + 1 < w9.drew.heap.size) := by
      have := S7.out
      have z : w9.drew.heap.size = w7.heap.size + 2 := z9
      exact ⟨by omega, by omega⟩
    clear hw9 z9 rx ry b9 b9' x0 x1 x2 x3 x4 y0 y1 y2 y3 y4 LX LY W7 S7 r0 r1
    generalize w9.drew = w8 at *
    by_cases hcal : ¬ xc = yc
    · have d0 := bne_true hcal
      have R : Hid (Q = 15) := HQ.out.symm.trans ((THP.out (by rw [ps_cal hcal]; decide)).trans (ps_cal hcal))
      clear hcal HQ THP
      go_wp2_with fail
      go_ret
      exact ⟨ret_int (by rw [R.out]), W9.out⟩
    have hcal := Decidable.not_not.1 hcal
    have d0 := neq_false hcal
    have HCAL := Lib.hid hcal
    clear hcal
    by_cases hx0 : xl.length = 0
    · have e1 : (xl.length : Int) - 1 = -1 := by omega
      have R : Hid (Q = 13) := HQ.out.symm.trans ((THP.out (by rw [ps_from HCAL.out hx0]; decide)).trans (ps_from HCAL.out hx0))
      clear hx0 HQ THP
      go_wp2_with fail
      go_quiet (fail)
      have B3 : Hid (Below w.heap.size w (w8.drewN nq)) := below_drewN W9.out nq
      generalize w8.drewN nq = w3 at B3 ⊢
      go_wp2_with fail
      go_ret
      exact ⟨ret_int (by rw [R.out]), B3.out⟩
    obtain ⟨t, ht⟩ : ∃ t, xl.length - 1 = t := ⟨_, rfl⟩
    have e1 : (xl.length : Int) - 1 = (t : Int) := by omega
    have tle : t ≤ 1000000 := by omega
    have tn : (t : Int) < (xl.length : Int) := by omega
    have wk : IntKind.i64.wrap (t : Int) = (t : Int) := IntWalk.i64_in _ (by omega)
    have tp : decide ((t : Int) < 0) = false := decide_eq_false (by omega)
    by_cases hy0 : yl.length = 0
    · have g1 : ((yl.length : Int) == 0) = true := beq_true (by omega)
      have g1' : (yl.length == 0) = true := by rw [hy0]; rfl
      have R : Hid (Q = 13) := HQ.out.symm.trans ((THP.out (by rw [ps_to HCAL.out hy0]; decide)).trans (ps_to HCAL.out hy0))
      clear hx0 hy0 HQ THP ht
      go_wp2_with fail
      go_quiet (fail)
      have B3 : Hid (Below w.heap.size w (w8.drewN nq)) := below_drewN W9.out nq
      generalize w8.drewN nq = w3 at B3 ⊢
      go_wp2_with fail
      go_ret
      exact ⟨ret_int (by rw [R.out]), B3.out⟩
    have g1 : ((yl.length : Int) == 0) = false := beq_false (by omega)
    have g1' : (yl.length == 0) = false := by rw [beq_eq_false_iff_ne]; exact hy0
    have gn : (0 : Int) < (yl.length : Int) := by omega
    have gn' : 0 < yl.length := by omega
    obtain ⟨⟨qs, qa, qd, qo, qu⟩, hyq⟩ := at_lt (l := yl) (k := 0) (by omega)
    obtain ⟨⟨ps, pa, pd, po, pu⟩, hxp⟩ := at_lt (l := xl) (k := xl.length - 1) (by omega)
    have XP := Lib.hid hxp
    have YQ := Lib.hid hyq
    rw [ht] at hxp
    obtain ⟨bp, op, rfl, hbp, m0, m1, m2, m3, m4⟩ := five_at L9.out hxp
    obtain ⟨bq, oq, rfl, hbq, t0, t1, t2, t3, t4⟩ := five_at M9.out hyq
    rw [Nat.zero_mul, Nat.add_zero] at t0 t1 t2 t3 t4
    clear hxp hyq hx0 hy0 ht m3 m4 t3 t4 m2 t1 hbp hbq L9 M9
    by_cases n6 : ¬ ps = qs
    · have g6 := bne_true n6
      have R : Hid (Q = 13) := HQ.out.symm.trans ((THP.out (by rw [ps_stop HCAL.out XP.out YQ.out n6]; decide)).trans (ps_stop HCAL.out XP.out YQ.out n6))
      clear n6 HQ THP XP YQ
      go_wp2_with fail
      go_quiet (fail)
      have B3 : Hid (Below w.heap.size w (w8.drewN nq)) := below_drewN W9.out nq
      generalize w8.drewN nq = w3 at B3 ⊢
      go_wp2_with fail
      go_ret
      exact ⟨ret_int (by rw [R.out]), B3.out⟩
    have n6 := Decidable.not_not.1 n6
    have g6 := neq_false n6
    have N6 := Lib.hid n6
    clear n6
    by_cases n7 : qd < pa
    · have R : Hid (Q = 10) := HQ.out.symm.trans ((THP.out (by rw [ps_time HCAL.out XP.out YQ.out N6.out n7]; decide)).trans (ps_time HCAL.out XP.out YQ.out N6.out n7))
      clear HQ THP XP YQ
      go_wp2_with fail
      go_quiet (fail)
      generalize nq = na
      go_wp2_with fail
      go_quiet (fail)
      have B4 : Hid (Below w.heap.size w ((w8.drewN na).drewN nq)) := below_drewN (below_drewN W9.out na) nq
      go_wp2_with fail
      go_ret
      exact ⟨ret_int (by rw [R.out]), B4.out⟩
    have g7 : decide (qd < pa) = false := decide_eq_false n7
    have E2 : Hid (psE (tcA (ts.map tcT) (i : Int)) (tcA (ts.map tcT) (j : Int)) = 0) := by rw [AX.out, AY.out]; exact ps_ok HCAL.out XP.out YQ.out N6.out n7
    clear n7 THP XP YQ
    go_wp2_with fail
    go_quiet (fail)
    generalize nq = na
    go_wp2_with fail
    go_quiet (fail)
    have B4 : Below w8.heap.size w8 ((w8.drewN na).drewN nq) := below_drewN (below_drewN (Below.refl _ _) na) nq
    generalize (w8.drewN na).drewN nq = w4 at B4 ⊢
    have W4 : Hid (Below w.heap.size w w4) := W9.out.trans (B4.mono W9.out.size)
    have p0 := (B4.cell (p := ⟨w.heap.size, 0, none⟩) Z9.out.1).trans p0
    have p1 := (B4.cell (p := ⟨w.heap.size, 1, none⟩) Z9.out.1).trans p1
    have Z4 : Hid (w.heap.size < w4.heap.size) := Nat.lt_of_lt_of_le Z9.out.1 B4.size
    clear u2 u4 v2 v4 m0 m1 t0 t2 d0 g1 g1' gn gn' g6 g7 e1 tle tn wk tp B4 W9 Z9 N6 HCAL
    go_wp2_with fail
    go_loopw [13] (fun x wr => ∃ d : Nat, x = .int .i64 d ∧ d ≤ k ∧ Hid (∀ (y : Nat) z, y < d → l[y]? = some z → z.1 ≠ (i : Int) ∧ z.2 ≠ (j : Int)) ∧ Hid (∃ n, wr = w4.drewN n)) (fun x _ => k - (intOf x).toNat)
    case atStart => exact ⟨0, rfl, Nat.zero_le _, Lib.hid (fun y z hy => absurd hy (Nat.not_lt_zero _)), Lib.hid ⟨0, rfl⟩⟩
    case round =>
      obtain ⟨d, rfl, hd, hall, hn⟩ := hrel
      by_cases hlt : d < k
      · obtain ⟨⟨da, db⟩, hdx⟩ := at_lt (l := l) (k := d) (by omega)
        have hbw := drew_below hn.out
        obtain ⟨c', o', e', -, s0, s1⟩ := two_hh (H1.out.below (W4.out.trans (hbw.mono W4.out.size))) hdx
        cases e'
        have p0 := (hbw.cell (p := ⟨w.heap.size, 0, none⟩) Z4.out).trans p0
        have p1 := (hbw.cell (p := ⟨w.heap.size, 1, none⟩) Z4.out).trans p1
        have gd : (d : Int) < (l.length : Int) := by omega
        have gdk : (d : Int) < (k : Int) := by omega
        by_cases n8 : da = (i : Int)
        · have g8 := beq_true n8
          have R : Hid (Q = 6) := HQ.out.symm.trans (th_from E1.out E2.out (keys_hit (key := Prod.fst) hlt hdx n8))
          clear n8 hall hdx hbw
          go_wp2_with fail
          go_quiet (fail)
          go_wp2_with fail
          go_ret
          exact ⟨ret_int (by rw [R.out]), W4.out.trans ((drew_below (drew_on hn nq).out).mono W4.out.size)⟩
        have g8 := beq_false n8
        by_cases n9 : db = (j : Int)
        · have g9 := beq_true n9
          have R : Hid (Q = 6) := HQ.out.symm.trans (th_to E1.out E2.out (keys_hit (key := Prod.snd) hlt hdx n9))
          clear n8 n9 hall hdx hbw
          go_wp2_with fail
          go_quiet (fail)
          go_wp2_with fail
          go_ret
          exact ⟨ret_int (by rw [R.out]), W4.out.trans ((drew_below (drew_on hn nq).out).mono W4.out.size)⟩
        have g9 := beq_false n9
        have N : Hid (∀ (y : Nat) z, y < d + 1 → l[y]? = some z → z.1 ≠ (i : Int) ∧ z.2 ≠ (j : Int)) := by
          intro y z hy hz
          by_cases hyd : y < d
          · exact hall.out y z hyd hz
          · obtain rfl : y = d := by omega
            rw [hdx] at hz
            obtain rfl := Option.some.inj hz
            exact ⟨n8, n9⟩
        clear n8 n9 hall hdx hbw
        go_wp2_with fail
        go_quiet (fail)
        go_wp2_with fail
        go_roundw
        case rel => exact ⟨d + 1, by go_num, by omega, N, drew_on hn nq⟩
        case measure => simp [intOf]; omega
      · obtain rfl : d = k := by omega
        have dd : decide (d < d) = false := by simp
        have A1 : (i : Int) ∉ (l.take d).map Prod.fst := keys_none (key := Prod.fst) (fun y z hy hz => (hall.out y z hy hz).1)
        have A2 : (j : Int) ∉ (l.take d).map Prod.snd := keys_none (key := Prod.snd) (fun y z hy hz => (hall.out y z hy hz).2)
        have hbw := drew_below hn.out
        have WR : Hid (Below w.heap.size w wr) := W4.out.trans (hbw.mono W4.out.size)
        have p0 := (hbw.cell (p := ⟨w.heap.size, 0, none⟩) Z4.out).trans p0
        have p1 := (hbw.cell (p := ⟨w.heap.size, 1, none⟩) Z4.out).trans p1
        have ZR : Hid (w.heap.size < wr.heap.size) := Nat.lt_of_lt_of_le Z4.out hbw.size
        obtain ⟨u, su, lu⟩ := ths_to (H1.out.below WR.out) d (by omega) (by omega) (d : Int) rfl
        have CH := Lib.hid (fun W (hW : Below wr.heap.size wr W) => far_own (rchain_any u (l.take d) (by rw [List.length_take]; omega) (j : Int) W (lu.below hW)) hW)
        have cln := ch_len (l.take d) (j : Int)
        have CL : Hid ((chT (l.take d) (j : Int)).length ≤ 1000000) := Nat.le_trans cln (by rw [List.length_take]; omega)
        have CT := Lib.hid (fun v W (hv : LstI W v (chT (l.take d) (j : Int))) => rhas_any v (chT (l.take d) (j : Int)) CL.out (i : Int) W hv)
        by_cases d3 : (i : Int) ∈ chT (l.take d) (j : Int)
        · have R : Hid (Q = 19) := HQ.out.symm.trans (th_link E1.out E2.out A1 A2 d3)
          rw [decide_eq_true d3] at CT
          generalize chT (l.take d) (j : Int) = cs at CH CT
          clear d3 cln CL lu A1 A2 hall hn hbw
          go_wp2_with fail
          go_region_held3 (fun W => W.cell? ⟨w.heap.size, 0, none⟩ = some (.int .i64 (i : Int)) ∧ W.cell? ⟨w.heap.size, 1, none⟩ = some (.int .i64 (j : Int))) (first | assumption | (exact ⟨by assumption, by assumption⟩)) (first
            | (go_at_call 21; with_reducible refine (CH.out _ (by first | exact Below.refl _ _ | exact (Below.refl _ _).drew)).mono ?_; rintro e wa ⟨ua, rfl, la, ba⟩; have z0 := (ba.cell (p := ⟨w.heap.size, 0, none⟩) ZR.out).trans p0; have z1 := (ba.cell (p := ⟨w.heap.size, 1, none⟩) ZR.out).trans p1; have LA := Lib.hid la; have BA := Lib.hid ba; clear la ba)
            | (go_at_call 24; with_reducible refine (CT.out _ _ (by first | exact LA.out | exact LA.out.below (Below.refl _ _).drew)).mono ?_; rintro e w' ⟨rfl, rfl⟩))
          all_goals
            have Wa : Hid (Below w.heap.size w wa) := WR.out.trans (BA.out.mono WR.out.size)
            clear z0 z1 CH CT LA BA
            go_wp2_with fail
            go_ret
            exact ⟨ret_int (by rw [R.out]), Wa.out⟩
        have R : Hid (Q = 0) := HQ.out.symm.trans (th_ok E1.out E2.out A1 A2 d3)
        rw [decide_eq_false d3] at CT
        generalize chT (l.take d) (j : Int) = cs at CH CT
        clear d3 cln CL lu A1 A2 hall hn hbw
        go_wp2_with fail
        go_region_held3 (fun W => W.cell? ⟨w.heap.size, 0, none⟩ = some (.int .i64 (i : Int)) ∧ W.cell? ⟨w.heap.size, 1, none⟩ = some (.int .i64 (j : Int))) (first | assumption | (exact ⟨by assumption, by assumption⟩)) (first
          | (go_at_call 21; with_reducible refine (CH.out _ (by first | exact Below.refl _ _ | exact (Below.refl _ _).drew)).mono ?_; rintro e wa ⟨ua, rfl, la, ba⟩; have z0 := (ba.cell (p := ⟨w.heap.size, 0, none⟩) ZR.out).trans p0; have z1 := (ba.cell (p := ⟨w.heap.size, 1, none⟩) ZR.out).trans p1; have LA := Lib.hid la; have BA := Lib.hid ba; clear la ba)
          | (go_at_call 24; with_reducible refine (CT.out _ _ (by first | exact LA.out | exact LA.out.below (Below.refl _ _).drew)).mono ?_; rintro e w' ⟨rfl, rfl⟩))
        all_goals
          have Wa : Hid (Below w.heap.size w wa) := WR.out.trans (BA.out.mono WR.out.size)
          clear z0 z1 CH CT LA BA
          go_wp2_with fail
          go_ret
          exact ⟨ret_int (by rw [R.out]), Wa.out⟩
  · obtain ⟨w9, hw9, z9, ry, rx, b9⟩ := box_both w7 (boxT yn yr yc yf (.slice By yl.length my)) (boxT xn xr xc xf (.slice Bx xl.length mx))
    rw [hw9]
    have b9' := b9.drew
    obtain ⟨-, -, u2, -, u4⟩ := row_tp (w := w9.drew) rx
    obtain ⟨-, -, v2, -, v4⟩ := row_tp (w := w9.drew) ry
    have p0 := (b9'.cell (p := ⟨w.heap.size, 0, none⟩) S7.out).trans p0
    have p1 := (b9'.cell (p := ⟨w.heap.size, 1, none⟩) S7.out).trans p1
    have W9 : Hid (Below w.heap.size w w9.drew) := W7.out.trans (b9'.mono W7.out.size)
    have L9 := Lib.hid (LX.out.below b9')
    have M9 := Lib.hid (LY.out.below b9')
    have Z9 : Hid (w.heap.size < w9.drew.heap.size ∧ w7.heap.size + 1 < w9.drew.heap.size) := by
      have := S7.out
      have z : w9.drew.heap.size = w7.heap.size + 2 := z9
      exact ⟨by omega, by omega⟩
    clear hw9 z9 rx ry b9 b9' x0 x1 x2 x3 x4 y0 y1 y2 y3 y4 LX LY W7 S7 r0 r1
    generalize w9.drew = w8 at *
    by_cases hcal : ¬ xc = yc
    · have d0 := bne_true hcal
      have R : Hid (Q = 15) := HQ.out.symm.trans ((THP.out (by rw [ps_cal hcal]; decide)).trans (ps_cal hcal))
      clear hcal HQ THP
      go_wp2_with fail
      go_ret
      exact ⟨ret_int (by rw [R.out]), W9.out⟩
    have hcal := Decidable.not_not.1 hcal
    have d0 := neq_false hcal
    have HCAL := Lib.hid hcal
    clear hcal
    by_cases hx0 : xl.length = 0
    · have e1 : (xl.length : Int) - 1 = -1 := by omega
      have R : Hid (Q = 13) := HQ.out.symm.trans ((THP.out (by rw [ps_from HCAL.out hx0]; decide)).trans (ps_from HCAL.out hx0))
      clear hx0 HQ THP
      go_wp2_with fail
      go_quiet (fail)
      have B3 : Hid (Below w.heap.size w (w8.drewN nq)) := below_drewN W9.out nq
      generalize w8.drewN nq = w3 at B3 ⊢
      go_wp2_with fail
      go_ret
      exact ⟨ret_int (by rw [R.out]), B3.out⟩
    obtain ⟨t, ht⟩ : ∃ t, xl.length - 1 = t := ⟨_, rfl⟩
    have e1 : (xl.length : Int) - 1 = (t : Int) := by omega
    have tle : t ≤ 1000000 := by omega
    have tn : (t : Int) < (xl.length : Int) := by omega
    have wk : IntKind.i64.wrap (t : Int) = (t : Int) := IntWalk.i64_in _ (by omega)
    have tp : decide ((t : Int) < 0) = false := decide_eq_false (by omega)
    by_cases hy0 : yl.length = 0
    · have g1 : ((yl.length : Int) == 0) = true := beq_true (by omega)
      have g1' : (yl.length == 0) = true := by rw [hy0]; rfl
      have R : Hid (Q = 13) := HQ.out.symm.trans ((THP.out (by rw [ps_to HCAL.out hy0]; decide)).trans (ps_to HCAL.out hy0))
      clear hx0 hy0 HQ THP ht
      go_wp2_with fail
      go_quiet (fail)
      have B3 : Hid (Below w.heap.size w (w8.drewN nq)) := below_drewN W9.out nq
      generalize w8.drewN nq = w3 at B3 ⊢
      go_wp2_with fail
      go_ret
      exact ⟨ret_int (by rw [R.out]), B3.out⟩
    have g1 : ((yl.length : Int) == 0) = false := beq_false (by omega)
    have g1' : (yl.length == 0) = false := by rw [beq_eq_false_iff_ne]; exact hy0
    have gn : (0 : Int) < (yl.length : Int) := by omega
    have gn' : 0 < yl.length := by omega
    obtain ⟨⟨qs, qa, qd, qo, qu⟩, hyq⟩ := at_lt (l := yl) (k := 0) (by omega)
    obtain ⟨⟨ps, pa, pd, po, pu⟩, hxp⟩ := at_lt (l := xl) (k := xl.length - 1) (by omega)
    have XP := Lib.hid hxp
    have YQ := Lib.hid hyq
    rw [ht] at hxp
    obtain ⟨bp, op, rfl, hbp, m0, m1, m2, m3, m4⟩ := five_at L9.out hxp
    obtain ⟨bq, oq, rfl, hbq, t0, t1, t2, t3, t4⟩ := five_at M9.out hyq
    rw [Nat.zero_mul, Nat.add_zero] at t0 t1 t2 t3 t4
    clear hxp hyq hx0 hy0 ht m3 m4 t3 t4 m2 t1 hbp hbq L9 M9
    by_cases n6 : ¬ ps = qs
    · have g6 := bne_true n6
      have R : Hid (Q = 13) := HQ.out.symm.trans ((THP.out (by rw [ps_stop HCAL.out XP.out YQ.out n6]; decide)).trans (ps_stop HCAL.out XP.out YQ.out n6))
      clear n6 HQ THP XP YQ
      go_wp2_with fail
      go_quiet (fail)
      have B3 : Hid (Below w.heap.size w (w8.drewN nq)) := below_drewN W9.out nq
      generalize w8.drewN nq = w3 at B3 ⊢
      go_wp2_with fail
      go_ret
      exact ⟨ret_int (by rw [R.out]), B3.out⟩
    have n6 := Decidable.not_not.1 n6
    have g6 := neq_false n6
    have N6 := Lib.hid n6
    clear n6
    by_cases n7 : qd < pa
    · have R : Hid (Q = 10) := HQ.out.symm.trans ((THP.out (by rw [ps_time HCAL.out XP.out YQ.out N6.out n7]; decide)).trans (ps_time HCAL.out XP.out YQ.out N6.out n7))
      clear HQ THP XP YQ
      go_wp2_with fail
      go_quiet (fail)
      generalize nq = na
      go_wp2_with fail
      go_quiet (fail)
      have B4 : Hid (Below w.heap.size w ((w8.drewN na).drewN nq)) := below_drewN (below_drewN W9.out na) nq
      go_wp2_with fail
      go_ret
      exact ⟨ret_int (by rw [R.out]), B4.out⟩
    have g7 : decide (qd < pa) = false := decide_eq_false n7
    have E2 : Hid (psE (tcA (ts.map tcT) (i : Int)) (tcA (ts.map tcT) (j : Int)) = 0) := by rw [AX.out, AY.out]; exact ps_ok HCAL.out XP.out YQ.out N6.out n7
    clear n7 THP XP YQ
    go_wp2_with fail
    go_quiet (fail)
    generalize nq = na
    go_wp2_with fail
    go_quiet (fail)
    have B4 : Below w8.heap.size w8 ((w8.drewN na).drewN nq) := below_drewN (below_drewN (Below.refl _ _) na) nq
    generalize (w8.drewN na).drewN nq = w4 at B4 ⊢
    have W4 : Hid (Below w.heap.size w w4) := W9.out.trans (B4.mono W9.out.size)
    have p0 := (B4.cell (p := ⟨w.heap.size, 0, none⟩) Z9.out.1).trans p0
    have p1 := (B4.cell (p := ⟨w.heap.size, 1, none⟩) Z9.out.1).trans p1
    have Z4 : Hid (w.heap.size < w4.heap.size) := Nat.lt_of_lt_of_le Z9.out.1 B4.size
    clear u2 u4 v2 v4 m0 m1 t0 t2 d0 g1 g1' gn gn' g6 g7 e1 tle tn wk tp B4 W9 Z9 N6 HCAL
    go_wp2_with fail
    go_loopw [13] (fun x wr => ∃ d : Nat, x = .int .i64 d ∧ d ≤ k ∧ Hid (∀ (y : Nat) z, y < d → l[y]? = some z → z.1 ≠ (i : Int) ∧ z.2 ≠ (j : Int)) ∧ Hid (∃ n, wr = w4.drewN n)) (fun x _ => k - (intOf x).toNat)
    case atStart => exact ⟨0, rfl, Nat.zero_le _, Lib.hid (fun y z hy => absurd hy (Nat.not_lt_zero _)), Lib.hid ⟨0, rfl⟩⟩
    case round =>
      obtain ⟨d, rfl, hd, hall, hn⟩ := hrel
      by_cases hlt : d < k
      · obtain ⟨⟨da, db⟩, hdx⟩ := at_lt (l := l) (k := d) (by omega)
        have hbw := drew_below hn.out
        obtain ⟨c', o', e', -, s0, s1⟩ := two_hh (H1.out.below (W4.out.trans (hbw.mono W4.out.size))) hdx
        cases e'
        have p0 := (hbw.cell (p := ⟨w.heap.size, 0, none⟩) Z4.out).trans p0
        have p1 := (hbw.cell (p := ⟨w.heap.size, 1, none⟩) Z4.out).trans p1
        have gd : (d : Int) < (l.length : Int) := by omega
        have gdk : (d : Int) < (k : Int) := by omega
        by_cases n8 : da = (i : Int)
        · have g8 := beq_true n8
          have R : Hid (Q = 6) := HQ.out.symm.trans (th_from E1.out E2.out (keys_hit (key := Prod.fst) hlt hdx n8))
          clear n8 hall hdx hbw
          go_wp2_with fail
          go_quiet (fail)
          go_wp2_with fail
          go_ret
          exact ⟨ret_int (by rw [R.out]), W4.out.trans ((drew_below (drew_on hn nq).out).mono W4.out.size)⟩
        have g8 := beq_false n8
        by_cases n9 : db = (j : Int)
        · have g9 := beq_true n9
          have R : Hid (Q = 6) := HQ.out.symm.trans (th_to E1.out E2.out (keys_hit (key := Prod.snd) hlt hdx n9))
          clear n8 n9 hall hdx hbw
          go_wp2_with fail
          go_quiet (fail)
          go_wp2_with fail
          go_ret
          exact ⟨ret_int (by rw [R.out]), W4.out.trans ((drew_below (drew_on hn nq).out).mono W4.out.size)⟩
        have g9 := beq_false n9
        have N : Hid (∀ (y : Nat) z, y < d + 1 → l[y]? = some z → z.1 ≠ (i : Int) ∧ z.2 ≠ (j : Int)) := by
          intro y z hy hz
          by_cases hyd : y < d
          · exact hall.out y z hyd hz
          · obtain rfl : y = d := by omega
            rw [hdx] at hz
            obtain rfl := Option.some.inj hz
            exact ⟨n8, n9⟩
        clear n8 n9 hall hdx hbw
        go_wp2_with fail
        go_quiet (fail)
        go_wp2_with fail
        go_roundw
        case rel => exact ⟨d + 1, by go_num, by omega, N, drew_on hn nq⟩
        case measure => simp [intOf]; omega
      · obtain rfl : d = k := by omega
        have dd : decide (d < d) = false := by simp
        have A1 : (i : Int) ∉ (l.take d).map Prod.fst := keys_none (key := Prod.fst) (fun y z hy hz => (hall.out y z hy hz).1)
        have A2 : (j : Int) ∉ (l.take d).map Prod.snd := keys_none (key := Prod.snd) (fun y z hy hz => (hall.out y z hy hz).2)
        have hbw := drew_below hn.out
        have WR : Hid (Below w.heap.size w wr) := W4.out.trans (hbw.mono W4.out.size)
        have p0 := (hbw.cell (p := ⟨w.heap.size, 0, none⟩) Z4.out).trans p0
        have p1 := (hbw.cell (p := ⟨w.heap.size, 1, none⟩) Z4.out).trans p1
        have ZR : Hid (w.heap.size < wr.heap.size) := Nat.lt_of_lt_of_le Z4.out hbw.size
        obtain ⟨u, su, lu⟩ := ths_to (H1.out.below WR.out) d (by omega) (by omega) (d : Int) rfl
        have CH := Lib.hid (fun W (hW : Below wr.heap.size wr W) => far_own (rchain_any u (l.take d) (by rw [List.length_take]; omega) (j : Int) W (lu.below hW)) hW)
        have cln := ch_len (l.take d) (j : Int)
        have CL : Hid ((chT (l.take d) (j : Int)).length ≤ 1000000) := Nat.le_trans cln (by rw [List.length_take]; omega)
        have CT := Lib.hid (fun v W (hv : LstI W v (chT (l.take d) (j : Int))) => rhas_any v (chT (l.take d) (j : Int)) CL.out (i : Int) W hv)
        by_cases d3 : (i : Int) ∈ chT (l.take d) (j : Int)
        · have R : Hid (Q = 19) := HQ.out.symm.trans (th_link E1.out E2.out A1 A2 d3)
          rw [decide_eq_true d3] at CT
          generalize chT (l.take d) (j : Int) = cs at CH CT
          clear d3 cln CL lu A1 A2 hall hn hbw
          go_wp2_with fail
          go_region_held3 (fun W => W.cell? ⟨w.heap.size, 0, none⟩ = some (.int .i64 (i : Int)) ∧ W.cell? ⟨w.heap.size, 1, none⟩ = some (.int .i64 (j : Int))) (first | assumption | (exact ⟨by assumption, by assumption⟩)) (first
            | (go_at_call 21; with_reducible refine (CH.out _ (by first | exact Below.refl _ _ | exact (Below.refl _ _).drew)).mono ?_; rintro e wa ⟨ua, rfl, la, ba⟩; have z0 := (ba.cell (p := ⟨w.heap.size, 0, none⟩) ZR.out).trans p0; have z1 := (ba.cell (p := ⟨w.heap.size, 1, none⟩) ZR.out).trans p1; have LA := Lib.hid la; have BA := Lib.hid ba; clear la ba)
            | (go_at_call 24; with_reducible refine (CT.out _ _ (by first | exact LA.out | exact LA.out.below (Below.refl _ _).drew)).mono ?_; rintro e w' ⟨rfl, rfl⟩))
          all_goals
            have Wa : Hid (Below w.heap.size w wa) := WR.out.trans (BA.out.mono WR.out.size)
            clear z0 z1 CH CT LA BA
            go_wp2_with fail
            go_ret
            exact ⟨ret_int (by rw [R.out]), Wa.out⟩
        have R : Hid (Q = 0) := HQ.out.symm.trans (th_ok E1.out E2.out A1 A2 d3)
        rw [decide_eq_false d3] at CT
        generalize chT (l.take d) (j : Int) = cs at CH CT
        clear d3 cln CL lu A1 A2 hall hn hbw
        go_wp2_with fail
        go_region_held3 (fun W => W.cell? ⟨w.heap.size, 0, none⟩ = some (.int .i64 (i : Int)) ∧ W.cell? ⟨w.heap.size, 1, none⟩ = some (.int .i64 (j : Int))) (first | assumption | (exact ⟨by assumption, by assumption⟩)) (first
          | (go_at_call 21; with_reducible refine (CH.out _ (by first | exact Below.refl _ _ | exact (Below.refl _ _).drew)).mono ?_; rintro e wa ⟨ua, rfl, la, ba⟩; have z0 := (ba.cell (p := ⟨w.heap.size, 0, none⟩) ZR.out).trans p0; have z1 := (ba.cell (p := ⟨w.heap.size, 1, none⟩) ZR.out).trans p1; have LA := Lib.hid la; have BA := Lib.hid ba; clear la ba)
          | (go_at_call 24; with_reducible refine (CT.out _ _ (by first | exact LA.out | exact LA.out.below (Below.refl _ _).drew)).mono ?_; rintro e w' ⟨rfl, rfl⟩))
        all_goals
          have Wa : Hid (Below w.heap.size w wa) := WR.out.trans (BA.out.mono WR.out.size)
          clear z0 z1 CH CT LA BA
          go_wp2_with fail
          go_ret
          exact ⟨ret_int (by rw [R.out]), Wa.out⟩
set_option maxRecDepth 100000 in
set_option maxHeartbeats 2000000 in
theorem rchkh_any (vl : Value) (l : List Th) (hl : l.length ≤ 900000) (vt : Value) (ts : List Tp) (htl : ts.length ≤ 1000000) (hts : ∀ x ∈ ts, x.2.2.2.2.2.length ≤ 1000000) (vf : Value) (f : List Fq) (hf : f.length ≤ 1000) (w : World) (h1 : LstH w vl l) (h2 : LstTp w vt ts) (h3 : LstF w vf f) :
    Calls Try.prog 14 #[vl, vt, vf] w fun e w' => e = .returned (.tuple #[.int .i64 ((chkH (ts.map tcT) f l).1), .int .i64 ((chkH (ts.map tcT) f l).2)]) ∧ Below w.heap.size w w' := by
  have H1 := Lib.hid h1
  have H2 := Lib.hid h2
  have H3 := Lib.hid h3
  have HTS := Lib.hid hts
  obtain ⟨A, n, rfl, -, -, -⟩ := h1
  clear h2 h3 hts
  by_cases hm : 128 < l.length
  · have R := Lib.hid (chkH_many (ts := ts.map tcT) (f := f) hm)
    have g : (128 : Int) < (l.length : Int) := by omega
    generalize chkH (ts.map tcT) f l = q at R ⊢
    clear hm
    go_enter Try.func14, Try.ntmps14
    go_wp2_with fail
    go_ret2
    exact ⟨ret_chk (by rw [R.out]) (by rw [R.out]), Below.refl _ _⟩
  have g : decide ((128 : Int) < (l.length : Int)) = false := by rw [decide_eq_false_iff_not]; omega
  have ST := Lib.hid (chkH_start (ts := ts.map tcT) (f := f) (l := l) hm)
  obtain ⟨q, hq⟩ : ∃ q, chkH (ts.map tcT) f l = q := ⟨_, rfl⟩
  rw [hq]
  rw [hq] at ST
  clear hm hq
  go_enter Try.func14, Try.ntmps14
  go_wp2_with fail
  go_loopw [8] (fun i wr => ∃ k : Nat, i = .int .i64 k ∧ k ≤ l.length ∧ Hid (q = fbF (thE (ts.map tcT) f) idP ((l.take k).map idP) k (l.drop k)) ∧ Hid (Below w.heap.size w wr)) (fun i _ => l.length - (intOf i).toNat)
  case atStart => exact ⟨0, rfl, Nat.zero_le _, ST, Lib.hid (Below.refl _ _)⟩
  case round =>
    clear g ST
    obtain ⟨k, rfl, hk, hz, HB⟩ := hrel
    by_cases hlt : k < l.length
    · obtain ⟨⟨a, b⟩, hx⟩ := at_lt hlt
      have gk : (k : Int) < (l.length : Int) := by omega
      have C := Lib.hid (rone_any (.slice A l.length n) l hl vt ts htl HTS.out vf f hf k hlt a b hx wr (H1.out.below HB.out) (H2.out.below HB.out) (H3.out.below HB.out))
      have BE : thE (ts.map tcT) f ((l.take k).map idP) (a, b) = thE (ts.map tcT) f (l.take k) (a, b) := by rw [map_idP]
      by_cases he : thE (ts.map tcT) f (l.take k) (a, b) = 0
      · have N := Lib.hid (fb_next hz.out hx (BE.trans he))
        rw [he] at C
        clear hz hx he BE
        go_wp2_with fail
        refine C.out.mono ?_
        rintro e w1 ⟨rfl, b1⟩
        have B1 : Hid (Below w.heap.size w w1) := HB.out.trans (b1.mono HB.out.size)
        clear b1 C HB
        go_wp2_with fail
        go_roundw
        case rel => exact ⟨k + 1, by go_num, by omega, N, B1⟩
        case measure => simp [intOf]; omega
      · have R := Lib.hid (fb_stop hz.out hx BE he)
        have ne := bne_true he
        generalize thE (ts.map tcT) f (l.take k) (a, b) = z at C R ne
        clear hz hx he BE
        go_wp2_with fail
        refine C.out.mono ?_
        rintro e w1 ⟨rfl, b1⟩
        have B1 : Hid (Below w.heap.size w w1) := HB.out.trans (b1.mono HB.out.size)
        clear b1 C HB
        go_wp2_with fail
        go_ret2
        exact ⟨ret_chk (by rw [R.out]) (by rw [R.out]), B1.out⟩
    · have R := Lib.hid (fb_done hz.out (by omega))
      have d : decide (k < l.length) = false := by rw [decide_eq_false_iff_not]; exact hlt
      clear hz hlt
      go_wp2_with fail
      go_ret2
      exact ⟨ret_chk (by rw [R.out]) (by rw [R.out]), HB.out⟩
end Go.Proofs.Ytkballjadkhepaa
