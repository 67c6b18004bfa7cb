/-
  The guaranteed change with an index, and CheckGuarantees, of the reference of package through: what each call answers; nothing that existed before the call has changed behind it. Condition: at most 1000000 guaranteed changes, at most 1000 frequencies, at most 1000000 trips of at most 1000000 calls.
-/
import Derived.Test.YtkballjadkhepaaTmG
namespace Go.Proofs.Ytkballjadkhepaa
open Go.RowKit

set_option maxRecDepth 100000 in
set_option maxHeartbeats 2000000 in
theorem rgu_any (vl : Value) (l : List Gt) (hl : l.length ≤ 1000000) (vt : Value) (ts : List Tp) (_ : ts.length ≤ 1000000) (hts : ∀ x ∈ ts, x.2.2.2.2.2.length ≤ 1000000) (vf : Value) (f : List Fq) (hf : f.length ≤ 1000) (st : Int) (k : Nat) (hk : k < l.length) (a b s : Int) (hx : l[k]? = some (a, b, s)) (w : World) (h1 : LstU w vl l) (h2 : LstTp w vt ts) (h3 : LstF w vf f) :
    Calls Try.prog 30 #[vl, .int .i64 (k : Int), vt, vf, .int .i64 st] w fun e w' => e = .returned (.int .i64 (guE (ts.map tcT) f st (l.take k) (a, b, s))) ∧ Below w.heap.size w w' := by
  have H1 := Lib.hid h1
  have H2 := Lib.hid h2
  have H3 := Lib.hid h3
  have HTS := Lib.hid hts
  have hlen : (ts.map tcT).length = ts.length := List.length_map ..
  obtain ⟨c, o, e0, hc, r0, r1, r2⟩ : ∃ c o, (∃ n, vl = .slice (some ⟨c, o, none⟩) l.length n) ∧ c < w.heap.size ∧ w.cell? ⟨c, o + k * 3, none⟩ = some (.int .i64 a) ∧ w.cell? ⟨c, o + k * 3 + 1, none⟩ = some (.int .i64 b) ∧ w.cell? ⟨c, o + k * 3 + 2, none⟩ = some (.int .i64 s) := by
    obtain ⟨A, n, rfl, -, -, -⟩ := id h1
    obtain ⟨c, o, rfl, hc, r0, r1, r2⟩ := three_gg h1 hx
    exact ⟨c, o, ⟨n, rfl⟩, hc, r0, r1, r2⟩
  obtain ⟨n, rfl⟩ := e0
  obtain ⟨⟨B, m, rfl, -, -, -⟩, -⟩ := h2
  obtain ⟨D, r, rfl, -, -, -⟩ := h3
  have gk : (k : Int) < (l.length : Int) := by omega
  obtain ⟨w7, hw7⟩ : ∃ W, w.alloc (boxU a b s) = W := ⟨_, rfl⟩
  obtain ⟨b7, p0, p1, p2, s7, -⟩ := box_gg hw7
  have W7 : Hid (Below w.heap.size w w7) := b7
  have S7 := Lib.hid s7
  obtain ⟨Q, hQ⟩ : ∃ Q, guE (ts.map tcT) f st (l.take k) (a, b, s) = Q := ⟨_, rfl⟩
  rw [hQ]
  have HQ := Lib.hid hQ
  have HLEN := Lib.hid hlen
  have GR : Hid (prE ts.length f a b = 9 → Q = 9) := fun h => HQ.out.symm.trans (gu_ref (by rw [HLEN.out]; exact h))
  clear b7 hx hts s7 hQ hlen hc
  by_cases n1 : ¬ (0 ≤ a ∧ a < (ts.length : Int))
  · have R := Lib.hid (GR.out (pr_a n1))
    have X := Lib.hid (fun W => risx_no a (ts.length : Int) n1 W)
    clear n1 HQ
    go_enter Try.func30, Try.ntmps30
    go_wp2_with fail
    refine (X.out _).mono ?_
    rintro e w' ⟨rfl, rfl⟩
    go_wp2_with fail
    go_ret
    exact ⟨ret_int (by rw [R.out]), W7.out⟩
  have n1 := Decidable.not_not.1 n1
  have X := Lib.hid (fun W => risx_yes a (ts.length : Int) n1 W)
  by_cases n2 : ¬ (0 ≤ b ∧ b < (ts.length : Int))
  · have R := Lib.hid (GR.out (pr_b n2))
    have Y := Lib.hid (fun W => risx_no b (ts.length : Int) n2 W)
    clear n1 n2 HQ
    go_enter Try.func30, Try.ntmps30
    go_wp2_with fail
    refine (X.out _).mono ?_
    rintro e w' ⟨rfl, rfl⟩
    go_wp2_with fail
    refine (Y.out _).mono ?_
    rintro e w' ⟨rfl, rfl⟩
    go_wp2_with fail
    go_ret
    exact ⟨ret_int (by rw [R.out]), W7.out⟩
  have n2 := Decidable.not_not.1 n2
  have Y := Lib.hid (fun W => risx_yes b (ts.length : Int) n2 W)
  by_cases n3 : a = b
  · have R := Lib.hid (GR.out (pr_ab n3))
    have g3 := beq_true n3
    clear n1 n2 n3 HQ GR
    go_enter Try.func30, Try.ntmps30
    go_wp2_with fail
    refine (X.out _).mono ?_
    rintro e w' ⟨rfl, rfl⟩
    go_wp2_with fail
    refine (Y.out _).mono ?_
    rintro e w' ⟨rfl, rfl⟩
    go_wp2_with fail
    go_ret
    exact ⟨ret_int (by rw [R.out]), W7.out⟩
  have g3 := beq_false n3
  by_cases n0 : ¬ (0 ≤ s ∧ s < st)
  · have R : Hid (Q = 9) := HQ.out.symm.trans (gu_stop n0)
    have Z := Lib.hid (fun W => risx_no s st n0 W)
    clear n1 n2 n3 n0 HQ
    go_enter Try.func30, Try.ntmps30
    go_wp2_with fail
    refine (X.out _).mono ?_
    rintro e w' ⟨rfl, rfl⟩
    go_wp2_with fail
    refine (Y.out _).mono ?_
    rintro e w' ⟨rfl, rfl⟩
    go_wp2_with fail
    refine (Z.out _).mono ?_
    rintro e w' ⟨rfl, rfl⟩
    go_wp2_with fail
    go_ret
    exact ⟨ret_int (by rw [R.out]), W7.out⟩
  have n0 := Decidable.not_not.1 n0
  have Z := Lib.hid (fun W => risx_yes s st n0 W)
  have F1 := Lib.hid (rrep_any (.slice D f.length r) f hf a w7 (H3.out.below W7.out))
  have F2 := Lib.hid (rrep_any (.slice D f.length r) f hf b w7 (H3.out.below W7.out))
  have GP : Hid (prE ts.length f a b = 17 → Q = 17) := fun h => HQ.out.symm.trans ((gu_pair n0 (by rw [HLEN.out, h]; decide)).trans (by rw [HLEN.out]; exact h))
  have N0 := Lib.hid n0
  cases n4 : repF a f with
  | true =>
    rw [n4] at F1
    have R := Lib.hid (GP.out (pr_fa n1 n2 n3 n4))
    clear n0 n1 n2 n3 n4 HQ F2 GR GP
    go_enter Try.func30, Try.ntmps30
    go_wp2_with fail
    refine (X.out _).mono ?_
    rintro e w' ⟨rfl, rfl⟩
    go_wp2_with fail
    refine (Y.out _).mono ?_
    rintro e w' ⟨rfl, rfl⟩
    go_wp2_with fail
    refine (Z.out _).mono ?_
    rintro e w' ⟨rfl, rfl⟩
    go_wp2_with fail
    refine F1.out.mono ?_
    rintro e w' ⟨rfl, rfl⟩
    go_wp2_with fail
    go_ret
    exact ⟨ret_int (by rw [R.out]), W7.out⟩
  | false =>
  rw [n4] at F1
  cases n5 : repF b f with
  | true =>
    rw [n5] at F2
    have R := Lib.hid (GP.out (pr_fb n1 n2 n3 n5))
    clear n0 n1 n2 n3 n4 n5 HQ GR GP
    go_enter Try.func30, Try.ntmps30
    go_wp2_with fail
    refine (X.out _).mono ?_
    rintro e w' ⟨rfl, rfl⟩
    go_wp2_with fail
    refine (Y.out _).mono ?_
    rintro e w' ⟨rfl, rfl⟩
    go_wp2_with fail
    refine (Z.out _).mono ?_
    rintro e w' ⟨rfl, rfl⟩
    go_wp2_with fail
    refine F1.out.mono ?_
    rintro e w' ⟨rfl, rfl⟩
    go_wp2_with fail
    refine F2.out.mono ?_
    rintro e w' ⟨rfl, rfl⟩
    go_wp2_with fail
    go_ret
    exact ⟨ret_int (by rw [R.out]), W7.out⟩
  | false =>
  rw [n5] at F2
  have E1 : Hid (prE (ts.map tcT).length f a b = 0) := by rw [HLEN.out]; exact pr_ok n1 n2 n3 n4 n5
  obtain ⟨i, rfl⟩ : ∃ i : Nat, a = (i : Int) := ⟨a.toNat, by omega⟩
  obtain ⟨j, rfl⟩ : ∃ j : Nat, b = (j : Int) := ⟨b.toNat, by omega⟩
  obtain ⟨⟨xi, xr, xc, xf, xv, xl⟩, tx⟩ := at_lt (l := ts) (k := i) (by omega)
  obtain ⟨⟨yi, yr, yc, yf, yv, yl⟩, ty⟩ := at_lt (l := ts) (k := j) (by omega)
  obtain ⟨xn, hxn⟩ : ∃ s, str xi = s := ⟨_, rfl⟩
  obtain ⟨yn, hyn⟩ : ∃ s, str yi = s := ⟨_, rfl⟩
  have hxl : xl.length ≤ 1000000 := HTS.out _ (List.mem_iff_getElem?.2 ⟨_, tx⟩)
  have hyl : yl.length ≤ 1000000 := HTS.out _ (List.mem_iff_getElem?.2 ⟨_, ty⟩)
  have AX := Lib.hid (tc_at tx)
  have AY := Lib.hid (tc_at ty)
  have gi : (i : Int) < (ts.length : Int) := n1.2
  have gj : (j : Int) < (ts.length : Int) := n2.2
  have TX := Lib.hid tx
  have TY := Lib.hid ty
  have XN := Lib.hid hxn
  have YN := Lib.hid hyn
  have T8 := Lib.hid (H2.out.below W7.out)
  obtain ⟨bx, ox, Bx, mx, ex, rfl, hbx, -, -, -, -, x4, lx, -, -⟩ := trip_at T8.out TX.out XN.out
  obtain ⟨by_, oy, By, my, ey, rfl, hby, -, -, -, -, y4, ly, -, -⟩ := trip_at T8.out TY.out YN.out
  subst ex
  cases ey
  have HBX := Lib.hid hbx
  have KC := Lib.hid (fun W (hW : Below w7.heap.size w7 W) => far_one (rme_any (.slice Bx xl.length mx) (.slice By yl.length my) xl yl hxl hyl s W (lx.below hW) (ly.below hW)) hW)
  have A1 : (meT s (tcA (ts.map tcT) (i : Int)).2 (tcA (ts.map tcT) (j : Int)).2).2.2 = (meT s xl yl).2.2 := by rw [AX.out, AY.out]
  have A2 := Lib.hid A1
  clear A1 hbx hby lx ly n0 n1 n2 n3 n4 n5 tx ty hxn hyn GR GP
  generalize (meT s xl yl).1 = u1 at KC
  generalize (meT s xl yl).2.1 = u2 at KC
  generalize (meT s xl yl).2.2 = u3 at KC A2
  go_enter Try.func30, Try.ntmps30
  go_wp2_with fail
  refine (X.out _).mono ?_
  rintro e w' ⟨rfl, rfl⟩
  go_wp2_with fail
  refine (Y.out _).mono ?_
  rintro e w' ⟨rfl, rfl⟩
  go_wp2_with fail
  refine (Z.out _).mono ?_
  rintro e w' ⟨rfl, rfl⟩
  go_wp2_with fail
  refine F1.out.mono ?_
  rintro e w' ⟨rfl, rfl⟩
  go_wp2_with fail
  refine F2.out.mono ?_
  rintro e w' ⟨rfl, rfl⟩
  clear F1 F2 X Y Z hw7
  cases u3 with
  | false =>
    have R : Hid (Q = 19) := HQ.out.symm.trans (gu_link N0.out E1.out A2.out)
    go_wp2_with fail
    go_region_held3 (fun W => W.cell? ⟨w.heap.size, 0, none⟩ = some (.int .i64 (i : Int)) ∧ W.cell? ⟨w.heap.size, 1, none⟩ = some (.int .i64 (j : Int)) ∧ W.cell? ⟨w.heap.size, 2, none⟩ = some (.int .i64 s) ∧ W.cell? ⟨bx, ox + i * 5 + 4, none⟩ = some (.slice Bx xl.length mx) ∧ W.cell? ⟨bx, ox + j * 5 + 4, none⟩ = some (.slice By yl.length my)) (first | assumption | (exact ⟨by assumption, by assumption, by assumption, by assumption, by assumption⟩)) (first
      | (go_at_call 23; with_reducible refine (KC.out _ (by first | exact Below.refl _ _ | exact (Below.refl _ _).drew)).mono ?_; rintro e w9 ⟨rfl, b9⟩; have z0 := (b9.cell (p := ⟨w.heap.size, 0, none⟩) S7.out).trans p0; have z1 := (b9.cell (p := ⟨w.heap.size, 1, none⟩) S7.out).trans p1; have z2 := (b9.cell (p := ⟨w.heap.size, 2, none⟩) S7.out).trans p2; have z3 := (b9.cell (p := ⟨bx, ox + i * 5 + 4, none⟩) HBX.out).trans x4; have z4 := (b9.cell (p := ⟨bx, ox + j * 5 + 4, none⟩) HBX.out).trans y4))
    have W9 : Hid (Below w.heap.size w w9) := W7.out.trans (b9.mono W7.out.size)
    clear b9 KC z0 z1 z2 z3 z4
    go_wp2_with fail
    go_ret
    exact ⟨ret_int (by rw [R.out]), W9.out⟩
  | true =>
    go_wp2_with fail
    go_region_held3 (fun W => W.cell? ⟨w.heap.size, 0, none⟩ = some (.int .i64 (i : Int)) ∧ W.cell? ⟨w.heap.size, 1, none⟩ = some (.int .i64 (j : Int)) ∧ W.cell? ⟨w.heap.size, 2, none⟩ = some (.int .i64 s) ∧ W.cell? ⟨bx, ox + i * 5 + 4, none⟩ = some (.slice Bx xl.length mx) ∧ W.cell? ⟨bx, ox + j * 5 + 4, none⟩ = some (.slice By yl.length my)) (first | assumption | (exact ⟨by assumption, by assumption, by assumption, by assumption, by assumption⟩)) (first
      | (go_at_call 23; with_reducible refine (KC.out _ (by first | exact Below.refl _ _ | exact (Below.refl _ _).drew)).mono ?_; rintro e w9 ⟨rfl, b9⟩; have z0 := (b9.cell (p := ⟨w.heap.size, 0, none⟩) S7.out).trans p0; have z1 := (b9.cell (p := ⟨w.heap.size, 1, none⟩) S7.out).trans p1; have z2 := (b9.cell (p := ⟨w.heap.size, 2, none⟩) S7.out).trans p2; have z3 := (b9.cell (p := ⟨bx, ox + i * 5 + 4, none⟩) HBX.out).trans x4; have z4 := (b9.cell (p := ⟨bx, ox + j * 5 + 4, none⟩) HBX.out).trans y4))
    have W9 : Hid (Below w.heap.size w w9) := W7.out.trans (b9.mono W7.out.size)
    have S9 : Hid (w.heap.size < w9.heap.size) := Nat.lt_of_lt_of_le S7.out b9.size
    clear b9 KC z3 z4 p0 p1 p2 x4 y4 T8 W7 S7 r0 r1 r2
    go_wp2_with fail
    go_loopw [15] (fun x wr => ∃ d : Nat, x = .int .i64 d ∧ d ≤ k ∧ Hid (∀ (y : Nat) z, y < d → l[y]? = some z → z ≠ ((i : Int), (j : Int), s)) ∧ Hid (∃ n, wr = w9.drewN n)) (fun x _ => k - (intOf x).toNat)
    case atStart => exact ⟨0, rfl, Nat.zero_le _, Lib.hid (fun y z hy => absurd hy (Nat.not_lt_zero _)), Lib.hid ⟨0, rfl⟩⟩
    case round =>
      obtain ⟨d, rfl, hd, hall, hn⟩ := hrel
      by_cases hlt : d < k
      · obtain ⟨⟨da, db, ds⟩, hdx⟩ := at_lt (l := l) (k := d) (by omega)
        have hbw := drew_below hn.out
        obtain ⟨c', o', e', -, s0, s1, s2⟩ := three_gg (H1.out.below (W9.out.trans (hbw.mono W9.out.size))) hdx
        cases e'
        have p0 := (hbw.cell (p := ⟨w.heap.size, 0, none⟩) S9.out).trans z0
        have p1 := (hbw.cell (p := ⟨w.heap.size, 1, none⟩) S9.out).trans z1
        have p2 := (hbw.cell (p := ⟨w.heap.size, 2, none⟩) S9.out).trans z2
        have gd : (d : Int) < (l.length : Int) := by omega
        have gdk : (d : Int) < (k : Int) := by omega
        by_cases n8 : (da, db, ds) = ((i : Int), (j : Int), s)
        · have EQ := eql_gu da db ds (i : Int) (j : Int) s true (decide_eq_true n8)
          have R : Hid (Q = 6) := HQ.out.symm.trans (gu_twice N0.out E1.out A2.out (by
            have := keys_hit (key := idG) hlt hdx n8
            rw [map_idG] at this
            exact this))
          clear n8 hall hdx hbw
          go_wp2_with fail
          go_quiet (fail)
          go_wp2_with fail
          go_ret
          exact ⟨ret_int (by rw [R.out]), W9.out.trans ((drew_below (drew_on hn nq).out).mono W9.out.size)⟩
        have EQ := eql_gu da db ds (i : Int) (j : Int) s false (decide_eq_false n8)
        have N : Hid (∀ (y : Nat) z, y < d + 1 → l[y]? = some z → z ≠ ((i : Int), (j : Int), s)) := by
          intro y z hy hz
          by_cases hyd : y < d
          · exact hall.out y z hyd hz
          · obtain rfl : y = d := by omega
            rw [hdx] at hz
            obtain rfl := Option.some.inj hz
            exact n8
        clear n8 hall hdx hbw
        go_wp2_with fail
        go_quiet (fail)
        go_wp2_with fail
        go_roundw
        case rel => exact ⟨d + 1, by go_num, by omega, N, drew_on hn nq⟩
        case measure => simp [intOf]; omega
      · obtain rfl : d = k := by omega
        have dd : decide (d < d) = false := by simp
        have A3 : ((i : Int), (j : Int), s) ∉ l.take d := by
          have := keys_none (key := idG) (l := l) (k := d) (fun y z hy hz => hall.out y z hy hz)
          rw [map_idG] at this
          exact this
        have WR : Hid (Below w.heap.size w wr) := W9.out.trans ((drew_below hn.out).mono W9.out.size)
        have R : Hid (Q = 0) := HQ.out.symm.trans (gu_ok N0.out E1.out A2.out A3)
        clear hall hlt A3
        go_wp2_with fail
        go_ret
        exact ⟨ret_int (by rw [R.out]), WR.out⟩
set_option maxRecDepth 100000 in
set_option maxHeartbeats 2000000 in
theorem rchku_any (vl : Value) (l : List Gt) (hl : l.length ≤ 1000000) (vt : Value) (ts : List Tp) (htl : ts.length ≤ 1000000) (hts : ∀ x ∈ ts, x.2.2.2.2.2.length ≤ 1000000) (vf : Value) (f : List Fq) (hf : f.length ≤ 1000) (st : Int) (w : World) (h1 : LstU w vl l) (h2 : LstTp w vt ts) (h3 : LstF w vf f) :
    Calls Try.prog 16 #[vl, vt, vf, .int .i64 st] w fun e w' => e = .returned (.tuple #[.int .i64 ((chkU (ts.map tcT) f st l).1), .int .i64 ((chkU (ts.map tcT) f st l).2)]) ∧ Below w.heap.size w w' := by
  have H1 := Lib.hid h1
  have H2 := Lib.hid h2
  have H3 := Lib.hid h3
  have HTS := Lib.hid hts
  obtain ⟨A, n, rfl, -, -, -⟩ := h1
  clear h2 h3 hts
  by_cases hm : 128 < l.length
  · have R := Lib.hid (chkU_many (ts := ts.map tcT) (f := f) (st := st) hm)
    have g : (128 : Int) < (l.length : Int) := by omega
    generalize chkU (ts.map tcT) f st l = q at R ⊢
    clear hm
    go_enter Try.func16, Try.ntmps16
    go_wp2_with fail
    go_ret2
    exact ⟨ret_chk (by rw [R.out]) (by rw [R.out]), Below.refl _ _⟩
  have g : decide ((128 : Int) < (l.length : Int)) = false := by rw [decide_eq_false_iff_not]; omega
  have ST := Lib.hid (chkU_start (ts := ts.map tcT) (f := f) (st := st) (l := l) hm)
  obtain ⟨q, hq⟩ : ∃ q, chkU (ts.map tcT) f st l = q := ⟨_, rfl⟩
  rw [hq]
  rw [hq] at ST
  clear hm hq
  go_enter Try.func16, Try.ntmps16
  go_wp2_with fail
  go_loopw [10] (fun i wr => ∃ k : Nat, i = .int .i64 k ∧ k ≤ l.length ∧ Hid (q = fbF (guE (ts.map tcT) f st) idG ((l.take k).map idG) k (l.drop k)) ∧ Hid (Below w.heap.size w wr)) (fun i _ => l.length - (intOf i).toNat)
  case atStart => exact ⟨0, rfl, Nat.zero_le _, ST, Lib.hid (Below.refl _ _)⟩
  case round =>
    clear g ST
    obtain ⟨k, rfl, hk, hz, HB⟩ := hrel
    by_cases hlt : k < l.length
    · obtain ⟨⟨a, b, s⟩, hx⟩ := at_lt hlt
      have gk : (k : Int) < (l.length : Int) := by omega
      have C := Lib.hid (rgu_any (.slice A l.length n) l hl vt ts htl HTS.out vf f hf st k hlt a b s hx wr (H1.out.below HB.out) (H2.out.below HB.out) (H3.out.below HB.out))
      have BE : guE (ts.map tcT) f st ((l.take k).map idG) (a, b, s) = guE (ts.map tcT) f st (l.take k) (a, b, s) := by rw [map_idG]
      by_cases he : guE (ts.map tcT) f st (l.take k) (a, b, s) = 0
      · have N := Lib.hid (fb_next hz.out hx (BE.trans he))
        rw [he] at C
        clear hz hx he BE
        go_wp2_with fail
        refine C.out.mono ?_
        rintro e w1 ⟨rfl, b1⟩
        have B1 : Hid (Below w.heap.size w w1) := HB.out.trans (b1.mono HB.out.size)
        clear b1 C HB
        go_wp2_with fail
        go_roundw
        case rel => exact ⟨k + 1, by go_num, by omega, N, B1⟩
        case measure => simp [intOf]; omega
      · have R := Lib.hid (fb_stop hz.out hx BE he)
        have ne := bne_true he
        generalize guE (ts.map tcT) f st (l.take k) (a, b, s) = z at C R ne
        clear hz hx he BE
        go_wp2_with fail
        refine C.out.mono ?_
        rintro e w1 ⟨rfl, b1⟩
        have B1 : Hid (Below w.heap.size w w1) := HB.out.trans (b1.mono HB.out.size)
        clear b1 C HB
        go_wp2_with fail
        go_ret2
        exact ⟨ret_chk (by rw [R.out]) (by rw [R.out]), B1.out⟩
    · have R := Lib.hid (fb_done hz.out (by omega))
      have d : decide (k < l.length) = false := by rw [decide_eq_false_iff_not]; exact hlt
      clear hz hlt
      go_wp2_with fail
      go_ret2
      exact ⟨ret_chk (by rw [R.out]) (by rw [R.out]), HB.out⟩
end Go.Proofs.Ytkballjadkhepaa
