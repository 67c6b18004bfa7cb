/-
  CheckGuarantees of package through: what the call answers; nothing that existed before the call has changed behind it. Condition: at most 1000000 guaranteed changes with numbers of 64 bits, at most 1000 frequencies, trips of at most 1000000 calls.
-/
import Derived.Test.YtkballjadkhepaaTmK
import Derived.Test.YtkballjadkhepaaTmW
namespace Go.Proofs.Ytkballjadkhepaa
open Go.RowKit

/-- Guaranteed changes with numbers of 64 bits. -/
def Gus64 (l : List Gt) : Prop := ∀ x ∈ l, Gu64 x
/-- '==' of two guaranteed changes. -/
theorem eql_gu (a b s a' b' s' : Int) (q : Bool) (h : decide ((a, b, s) = (a', b', s')) = q) (W : World) : (binOp BinOp.eql 62 (.agg #[.int .i64 a, .int .i64 b, .int .i64 s]) (.agg #[.int .i64 a', .int .i64 b', .int .i64 s'])).run Try.prog W = .ok (.bool q) W := by
  subst h
  by_cases h1 : a = a'
  · by_cases h2 : b = b'
    · by_cases h3 : s = s'
      · subst h1 h2 h3
        go_simp
      · subst h1 h2
        have : (s == s') = false := beq_false h3
        go_simp
    · subst h1
      have : (b == b') = false := beq_false h2
      go_simp
  · have : (a == a') = false := beq_false h1
    go_simp
set_option maxRecDepth 100000 in
set_option maxHeartbeats 2000000 in
theorem kchku_any (vl : Value) (l : List Gt) (hl : l.length ≤ 1000000) (hs : Gus64 l) (vt : Value) (ts : List Tp) (hts : ∀ x ∈ ts, x.2.2.2.2.2.length ≤ 1000000) (vf : Value) (f : List Fq) (hf : f.length ≤ 1000) (st : Int) (w : World) (h1 : LstU w vl l) (h2 : LstTp w vt ts) (h3 : LstF w vf f) :
    Calls Try.prog 15 #[vl, vt, vf, .int .i64 st] w fun e w' => e = .returned (.tuple #[.int .i64 ((chkU (ts.map tcT) f st l).1), .int .i64 ((chkU (ts.map tcT) f st l).2)]) ∧ Below w.heap.size w w' := by
  have H1 := Lib.hid h1
  have H2 := Lib.hid h2
  have H3 := Lib.hid h3
  have HS := Lib.hid hs
  have HTS := Lib.hid hts
  have hlen : (ts.map tcT).length = ts.length := List.length_map ..
  obtain ⟨A, n, rfl, -, -, -⟩ := h1
  obtain ⟨⟨B, m, rfl, -, -, -⟩, -⟩ := h2
  obtain ⟨D, r, rfl, -, -, -⟩ := h3
  clear hs hts
  by_cases hm : 128 < l.length
  · have R := Lib.hid (chkU_many (ts := ts.map tcT) (f := f) (st := st) hm)
    have g : (128 : Int) < (l.length : Int) := by omega
    generalize chkU (ts.map tcT) f st l = q at R ⊢
    clear hm hlen
    go_enter Try.func15, Try.ntmps15
    go_wp2_with fail
    go_ret2
    exact ⟨ret_chk (by rw [R.out]) (by rw [R.out]), Below.refl _ _⟩
  have g : decide ((128 : Int) < (l.length : Int)) = false := by rw [decide_eq_false_iff_not]; omega
  have ST := Lib.hid (chkU_start (ts := ts.map tcT) (f := f) (st := st) (l := l) hm)
  have hm' : l.length ≤ 128 := by omega
  have hmm := @run_makeMap Try.prog
  obtain ⟨q, hq⟩ : ∃ q, chkU (ts.map tcT) f st l = q := ⟨_, rfl⟩
  rw [hq]
  rw [hq] at ST
  have C1 := Lib.hid (kpes_any B D ts.length m f.length r w)
  have HLEN := Lib.hid hlen
  clear hm hq hlen
  go_enter Try.func15, Try.ntmps15
  go_wp2_with fail
  refine C1.out.mono ?_
  rintro e w1 ⟨rfl, m0, m1, b1, z1⟩
  have M0 := Lib.hid m0
  have M1 := Lib.hid m1
  have B1 := Lib.hid b1
  have Z1 := Lib.hid z1
  obtain ⟨w2, hw2⟩ : ∃ x, w1.alloc (.map #[] 0) = x := ⟨_, rfl⟩
  have N0 : Hid (MapU w2 w1.heap.size ((l.take 0).map idG)) := by
    show MapU _ _ []
    rw [← hw2]
    exact MapU.made w1
  have B2 : Hid (Below w1.heap.size w1 w2) := by rw [← hw2]; exact (Below.refl _ _).alloc (Nat.le_refl _) _
  clear m0 m1 b1 z1 C1
  go_wp2_with fail
  go_loopw [27] (fun i wr => ∃ k : Nat, i = .int .i64 k ∧ k ≤ l.length ∧ Hid (q = fbF (guE (ts.map tcT) f st) idG ((l.take k).map idG) k (l.drop k)) ∧ Hid (MapU wr w1.heap.size ((l.take k).map idG)) ∧ Hid (Below w1.heap.size w1 wr)) (fun i _ => l.length - (intOf i).toNat)
  case atStart => exact ⟨0, rfl, Nat.zero_le _, ST, N0, B2⟩
  case round =>
    clear g ST hmm N0 B2 hw2
    obtain ⟨k, rfl, hk, hz, HL, HB⟩ := hrel
    have BW : Hid (Below w.heap.size w wr) := B1.out.trans (HB.out.mono B1.out.size)
    by_cases hlt : k < l.length
    · obtain ⟨⟨a, b, s⟩, hx⟩ := at_lt hlt
      have hab := HS.out _ (List.mem_iff_getElem?.2 ⟨_, hx⟩)
      obtain ⟨c, o, rfl, hc, r0, r1, r2⟩ := three_gg (H1.out.below BW.out) hx
      obtain ⟨w7, hw7⟩ : ∃ W, wr.alloc (boxU a b s) = W := ⟨_, rfl⟩
      obtain ⟨b7, p0, p1, p2, s7, -⟩ := box_gg hw7
      have gk : (k : Int) < (l.length : Int) := by omega
      have B7 : Hid (Below w1.heap.size w1 w7) := HB.out.trans (b7.mono HB.out.size)
      have W7 : Hid (Below w.heap.size w w7) := BW.out.trans (b7.mono BW.out.size)
      have L7 := Lib.hid (HL.out.below b7)
      have SL := Lib.hid HL.out.lt
      have x0 := (B7.out.cell (p := ⟨w.heap.size, 0, none⟩) (World.block_lt_of_cell? _ _ M0.out)).trans M0.out
      have x1 := (B7.out.cell (p := ⟨w.heap.size + 1, 0, none⟩) (World.block_lt_of_cell? _ _ M1.out)).trans M1.out
      have PR := Lib.hid (kpr_any w.heap.size (.slice B ts.length m) (.slice D f.length r) ts f hf a b w7 x0 x1 (H2.out.below W7.out) (H3.out.below W7.out))
      have S7 := Lib.hid s7
      have ce := prE_enter
      clear b7 HL s7 x0 x1 hc HB BW
      by_cases n0 : ¬ (0 ≤ s ∧ s < st)
      · have R := Lib.hid (fb_stop hz.out hx (gu_stop (ts := ts.map tcT) (f := f) (st := st) (seen := (l.take k).map idG) (x := (a, b, s)) n0) (by decide))
        have X := Lib.hid (fun W => kisx_no s st n0 W)
        clear hz hx n0 hab PR
        go_wp2_with fail
        refine (X.out _).mono ?_
        rintro e w' ⟨rfl, rfl⟩
        go_wp2_with fail
        go_ret2
        exact ⟨ret_chk (by rw [R.out]) (by rw [R.out]), W7.out⟩
      have n0 := Decidable.not_not.1 n0
      have X := Lib.hid (fun W => kisx_yes s st n0 W)
      have N0 := Lib.hid n0
      by_cases e1 : prE ts.length f a b ≠ 0
      · have R := Lib.hid (fb_stop hz.out hx ((gu_pair (ts := ts.map tcT) (f := f) (st := st) (seen := (l.take k).map idG) (x := (a, b, s)) n0 (by rw [HLEN.out]; exact e1)).trans (by rw [HLEN.out])) e1)
        have ne := bne_true e1
        have R2 : Hid (q = ((k : Int), prE ts.length f a b)) := R.out
        generalize prE ts.length f a b = z at PR R2 ne
        clear hz hx e1 n0 hab R
        go_wp2_with fail
        refine (X.out _).mono ?_
        rintro e w' ⟨rfl, rfl⟩
        go_wp2_with fail
        refine PR.out.mono ?_
        rintro e w8 ⟨rfl, b8⟩
        have W8 : Hid (Below w.heap.size w w8) := W7.out.trans (b8.mono W7.out.size)
        clear b8 PR
        go_wp2_with fail
        go_ret2
        exact ⟨ret_chk (by rw [R2.out]) (by rw [R2.out]), W8.out⟩
      have e1 := Decidable.not_not.1 e1
      obtain ⟨ga, gb, -, -, -⟩ := pr_good e1
      obtain ⟨i, rfl⟩ : ∃ i : Nat, a = (i : Int) := ⟨a.toNat, by omega⟩
      obtain ⟨j, rfl⟩ : ∃ j : Nat, b = (j : Int) := ⟨b.toNat, by omega⟩
      obtain ⟨⟨xi, xr, xc, xf, xv, xl⟩, tx⟩ := at_lt (l := ts) (k := i) (by omega)
      obtain ⟨⟨yi, yr, yc, yf, yv, yl⟩, ty⟩ := at_lt (l := ts) (k := j) (by omega)
      obtain ⟨xn, hxn⟩ : ∃ s, str xi = s := ⟨_, rfl⟩
      obtain ⟨yn, hyn⟩ : ∃ s, str yi = s := ⟨_, rfl⟩
      have hxl : xl.length ≤ 1000000 := HTS.out _ (List.mem_iff_getElem?.2 ⟨_, tx⟩)
      have hyl : yl.length ≤ 1000000 := HTS.out _ (List.mem_iff_getElem?.2 ⟨_, ty⟩)
      have AX := Lib.hid (tc_at tx)
      have AY := Lib.hid (tc_at ty)
      have gi : (i : Int) < (ts.length : Int) := ga.2
      have gj : (j : Int) < (ts.length : Int) := gb.2
      have ile : (i : Int) ≤ 9223372036854775807 := hab.1.2
      have jle : (j : Int) ≤ 9223372036854775807 := hab.2.1.2
      have GU := Lib.hid hab
      have TX := Lib.hid tx
      have TY := Lib.hid ty
      have XN := Lib.hid hxn
      have YN := Lib.hid hyn
      have E1 : Hid (prE (ts.map tcT).length f (i : Int) (j : Int) = 0) := by rw [HLEN.out]; exact e1
      rw [e1] at PR
      have HX := Lib.hid hx
      clear e1 ga gb hab tx ty hxn hyn hx n0
      go_wp2_with fail
      refine (X.out _).mono ?_
      rintro e w' ⟨rfl, rfl⟩
      go_wp2_with fail
      refine PR.out.mono ?_
      rintro e w8 ⟨rfl, b8⟩
      have B8 : Hid (Below w1.heap.size w1 w8) := B7.out.trans (b8.mono B7.out.size)
      have W8 : Hid (Below w.heap.size w w8) := W7.out.trans (b8.mono W7.out.size)
      have L8 := Lib.hid (L7.out.below b8)
      have T8 := Lib.hid (H2.out.below W8.out)
      have p0 := (b8.cell (p := ⟨wr.heap.size, 0, none⟩) S7.out).trans p0
      have p1 := (b8.cell (p := ⟨wr.heap.size, 1, none⟩) S7.out).trans p1
      have p2 := (b8.cell (p := ⟨wr.heap.size, 2, none⟩) S7.out).trans p2
      have S8 : Hid (wr.heap.size < w8.heap.size) := Nat.lt_of_lt_of_le S7.out b8.size
      clear b8 PR L7 B7 W7 S7 r0 r1 r2 hw7 X
      obtain ⟨bx, ox, Bx, mx, ex, rfl, hbx, -, -, -, -, x4, lx, -, -⟩ := trip_at T8.out TX.out XN.out
      obtain ⟨by_, oy, By, my, ey, rfl, hby, -, -, -, -, y4, ly, -, -⟩ := trip_at T8.out TY.out YN.out
      subst ex
      cases ey
      have HBX := Lib.hid hbx
      have KC := Lib.hid (fun W (hW : Below w8.heap.size w8 W) => far_one (kme_any (.slice Bx xl.length mx) (.slice By yl.length my) xl yl hxl hyl s W (lx.below hW) (ly.below hW)) hW)
      clear hbx hby lx ly ce
      have A1 : (meT s (tcA (ts.map tcT) (i : Int)).2 (tcA (ts.map tcT) (j : Int)).2).2.2 = (meT s xl yl).2.2 := by rw [AX.out, AY.out]
      have A2 := Lib.hid A1
      clear A1
      generalize (meT s xl yl).1 = u1 at KC
      generalize (meT s xl yl).2.1 = u2 at KC
      generalize (meT s xl yl).2.2 = u3 at KC A2
      cases u3 with
      | false =>
        have R := Lib.hid (fb_stop hz.out HX.out (gu_link (seen := (l.take k).map idG) (x := ((i : Int), (j : Int), s)) N0.out E1.out A2.out) (by decide))
        clear hz
        go_wp2_with fail
        go_region_held3 (fun W => W.cell? ⟨wr.heap.size, 0, none⟩ = some (.int .i64 (i : Int)) ∧ W.cell? ⟨wr.heap.size, 1, none⟩ = some (.int .i64 (j : Int)) ∧ W.cell? ⟨wr.heap.size, 2, none⟩ = some (.int .i64 s) ∧ W.cell? ⟨bx, ox + i * 5 + 4, none⟩ = some (.slice Bx xl.length mx) ∧ W.cell? ⟨bx, ox + j * 5 + 4, none⟩ = some (.slice By yl.length my)) (first | assumption | (exact ⟨by assumption, by assumption, by assumption, by assumption, by assumption⟩)) (first
          | (go_at_call 22; with_reducible refine (KC.out _ (by first | exact Below.refl _ _ | exact (Below.refl _ _).drew)).mono ?_; rintro e w9 ⟨rfl, b9⟩; have z0 := (b9.cell (p := ⟨wr.heap.size, 0, none⟩) S8.out).trans p0; have z1 := (b9.cell (p := ⟨wr.heap.size, 1, none⟩) S8.out).trans p1; have z2 := (b9.cell (p := ⟨wr.heap.size, 2, none⟩) S8.out).trans p2; have z3 := (b9.cell (p := ⟨bx, ox + i * 5 + 4, none⟩) HBX.out).trans x4; have z4 := (b9.cell (p := ⟨bx, ox + j * 5 + 4, none⟩) HBX.out).trans y4))
        have W9 : Hid (Below w.heap.size w w9) := W8.out.trans (b9.mono W8.out.size)
        clear b9 KC z0 z1 z2 z3 z4
        go_wp2_with fail
        go_ret2
        exact ⟨ret_chk (by rw [R.out]) (by rw [R.out]), W9.out⟩
      | true =>
        go_wp2_with fail
        go_region_held3 (fun W => W.cell? ⟨wr.heap.size, 0, none⟩ = some (.int .i64 (i : Int)) ∧ W.cell? ⟨wr.heap.size, 1, none⟩ = some (.int .i64 (j : Int)) ∧ W.cell? ⟨wr.heap.size, 2, none⟩ = some (.int .i64 s) ∧ W.cell? ⟨bx, ox + i * 5 + 4, none⟩ = some (.slice Bx xl.length mx) ∧ W.cell? ⟨bx, ox + j * 5 + 4, none⟩ = some (.slice By yl.length my)) (first | assumption | (exact ⟨by assumption, by assumption, by assumption, by assumption, by assumption⟩)) (first
          | (go_at_call 22; with_reducible refine (KC.out _ (by first | exact Below.refl _ _ | exact (Below.refl _ _).drew)).mono ?_; rintro e w9 ⟨rfl, b9⟩; have z0 := (b9.cell (p := ⟨wr.heap.size, 0, none⟩) S8.out).trans p0; have z1 := (b9.cell (p := ⟨wr.heap.size, 1, none⟩) S8.out).trans p1; have z2 := (b9.cell (p := ⟨wr.heap.size, 2, none⟩) S8.out).trans p2; have z3 := (b9.cell (p := ⟨bx, ox + i * 5 + 4, none⟩) HBX.out).trans x4; have z4 := (b9.cell (p := ⟨bx, ox + j * 5 + 4, none⟩) HBX.out).trans y4))
        have B9 : Hid (Below w1.heap.size w1 w9) := B8.out.trans (b9.mono B8.out.size)
        have W9 : Hid (Below w.heap.size w w9) := W8.out.trans (b9.mono W8.out.size)
        have L9 := Lib.hid (L8.out.below b9)
        clear b9 KC z3 z4 p0 p1 p2 x4 y4 T8 L8 B8 W8
        have lk := L9.out.look ((i : Int), (j : Int), s) GU.out
        by_cases d1 : ((i : Int), (j : Int), s) ∈ (l.take k).map idG
        · have R := Lib.hid (fb_stop hz.out HX.out (gu_twice (seen := (l.take k).map idG) (x := ((i : Int), (j : Int), s)) N0.out E1.out A2.out d1) (by decide))
          rw [decide_eq_true d1] at lk
          clear hz d1
          go_wp2_with fail
          go_ret2
          exact ⟨ret_chk (by rw [R.out]) (by rw [R.out]), W9.out⟩
        rw [decide_eq_false d1] at lk
        have N := Lib.hid (fb_next hz.out HX.out (gu_ok (seen := (l.take k).map idG) (x := ((i : Int), (j : Int), s)) N0.out E1.out A2.out d1))
        obtain ⟨wv, hrun, mv, gv⟩ := L9.out.update ((i : Int), (j : Int), s) GU.out (by rw [List.length_map, List.length_take]; omega)
        have MV : Hid (MapU wv w1.heap.size ((l.take (k + 1)).map idG)) := by show MapU _ _ _; rw [key_take (key := idG) HX.out]; exact mv
        have BV : Hid (Below w1.heap.size w1 wv) := B9.out.grown gv B9.out.size (fun y hy => by cases hy; exact Nat.le_refl _)
        clear hz d1 mv gv L9 B9
        go_wp2_with fail
        go_roundw
        case rel => exact ⟨k + 1, by go_num, by omega, N, MV, BV⟩
        case measure => simp [intOf]; omega
    · have R := Lib.hid (fb_done hz.out (by omega))
      have d : decide (k < l.length) = false := by rw [decide_eq_false_iff_not]; exact hlt
      clear hz hlt HL
      go_wp2_with fail
      go_ret2
      exact ⟨ret_chk (by rw [R.out]) (by rw [R.out]), BW.out⟩
end Go.Proofs.Ytkballjadkhepaa
