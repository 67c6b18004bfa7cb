/-
  Check of package through: what the call answers; nothing that existed before the call has changed behind it. Condition: at most 1000000 through services with numbers of 64 bits, at most 1000 frequencies, trips of at most 1000000 calls.
-/
import Derived.Test.YtkballjadkhepaaTmK
namespace Go.Proofs.Ytkballjadkhepaa
open Go.RowKit

set_option maxRecDepth 100000 in
set_option maxHeartbeats 2000000 in
theorem kchkh_any (vl : Value) (l : List Th) (hl : l.length ≤ 1000000) (hs : Th64 l) (vt : Value) (ts : List Tp) (hts : ∀ x ∈ ts, x.2.2.2.2.2.length ≤ 1000000) (vf : Value) (f : List Fq) (hf : f.length ≤ 1000) (w : World) (h1 : LstH w vl l) (h2 : LstTp w vt ts) (h3 : LstF w vf f) :
    Calls Try.prog 13 #[vl, vt, vf] w fun e w' => e = .returned (.tuple #[.int .i64 ((chkH (ts.map tcT) f l).1), .int .i64 ((chkH (ts.map tcT) f l).2)]) ∧ Below w.heap.size w w' := by
  have H1 := Lib.hid h1
  have H2 := Lib.hid h2
  have H3 := Lib.hid h3
  have HS := Lib.hid hs
  have HTS := Lib.hid hts
  have hlen : (ts.map tcT).length = ts.length := List.length_map ..
  obtain ⟨A, n, rfl, -, -, -⟩ := h1
  obtain ⟨⟨B, m, rfl, -, -, -⟩, -⟩ := h2
  obtain ⟨D, r, rfl, -, -, -⟩ := h3
  clear hs hts
  by_cases hm : 128 < l.length
  · have R := Lib.hid (chkH_many (ts := ts.map tcT) (f := f) hm)
    have g : (128 : Int) < (l.length : Int) := by omega
    generalize chkH (ts.map tcT) f l = q at R ⊢
    clear hm hlen
    go_enter Try.func13, Try.ntmps13
    go_wp2_with fail
    go_ret2
    exact ⟨ret_chk (by rw [R.out]) (by rw [R.out]), Below.refl _ _⟩
  have g : decide ((128 : Int) < (l.length : Int)) = false := by rw [decide_eq_false_iff_not]; omega
  have ST := Lib.hid (chkH_start (ts := ts.map tcT) (f := f) (l := l) hm)
  have hm' : l.length ≤ 128 := by omega
  have hmm := @run_makeMap Try.prog
  obtain ⟨q, hq⟩ : ∃ q, chkH (ts.map tcT) f l = q := ⟨_, rfl⟩
  rw [hq]
  rw [hq] at ST
  have C1 := Lib.hid (kpes_any B D ts.length m f.length r w)
  have HLEN := Lib.hid hlen
  clear hm hq hlen
  go_enter Try.func13, Try.ntmps13
  go_wp2_with fail
  refine C1.out.mono ?_
  rintro e w1 ⟨rfl, m0, m1, b1, z1⟩
  have M0 := Lib.hid m0
  have M1 := Lib.hid m1
  have B1 := Lib.hid b1
  have Z1 := Lib.hid z1
  obtain ⟨w2, hw2⟩ : ∃ x, w1.alloc (.map #[] 0) = x := ⟨_, rfl⟩
  obtain ⟨w3, hw3⟩ : ∃ x, w2.alloc (.map #[] 0) = x := ⟨_, rfl⟩
  have z2 : w1.heap.size < w2.heap.size := by rw [← hw2]; simp
  have b3 : Below w2.heap.size w2 w3 := by rw [← hw3]; exact (Below.refl _ _).alloc (Nat.le_refl _) _
  have b2 : Below w1.heap.size w1 w2 := by rw [← hw2]; exact (Below.refl _ _).alloc (Nat.le_refl _) _
  have N0 : Hid (MapN w3 w1.heap.size ((l.take 0).map Prod.fst)) := by
    show MapN _ _ []
    exact MapN.below (by rw [← hw2]; exact MapN.made w1) b3
  have N1 : Hid (MapN w3 w2.heap.size ((l.take 0).map Prod.snd)) := by
    show MapN _ _ []
    rw [← hw3]
    exact MapN.made w2
  have B3 : Hid (Below w1.heap.size w1 w3) := b2.trans (b3.mono b2.size)
  have Z2 := Lib.hid z2
  clear m0 m1 b1 z1 z2 b2 b3 C1
  go_wp2_with fail
  go_loopw [25] (fun i wr => ∃ k : Nat, i = .int .i64 k ∧ k ≤ l.length ∧ Hid (q = fbF (thE (ts.map tcT) f) idP ((l.take k).map idP) k (l.drop k)) ∧ Hid (MapN wr w1.heap.size ((l.take k).map Prod.fst)) ∧ Hid (MapN wr w2.heap.size ((l.take k).map Prod.snd)) ∧ Hid (Below w1.heap.size w1 wr)) (fun i _ => l.length - (intOf i).toNat)
  case atStart => exact ⟨0, rfl, Nat.zero_le _, ST, N0, N1, B3⟩
  case round =>
    clear g ST hmm N0 N1 B3 hw2 hw3
    obtain ⟨k, rfl, hk, hz, HL, HE, HB⟩ := hrel
    have BW : Hid (Below w.heap.size w wr) := B1.out.trans (HB.out.mono B1.out.size)
    by_cases hlt : k < l.length
    · obtain ⟨⟨a, b⟩, hx⟩ := at_lt hlt
      have hab := HS.out _ (List.mem_iff_getElem?.2 ⟨_, hx⟩)
      obtain ⟨c, o, rfl, hc, r0, r1⟩ := two_hh (H1.out.below BW.out) hx
      obtain ⟨w7, hw7⟩ : ∃ W, wr.alloc (boxH a b) = W := ⟨_, rfl⟩
      obtain ⟨b7, p0, p1, s7, -⟩ := box_hh hw7
      have gk : (k : Int) < (l.length : Int) := by omega
      have B7 : Hid (Below w1.heap.size w1 w7) := HB.out.trans (b7.mono HB.out.size)
      have W7 : Hid (Below w.heap.size w w7) := BW.out.trans (b7.mono BW.out.size)
      have L7 := Lib.hid (HL.out.below b7)
      have E7 := Lib.hid (HE.out.below b7)
      have x0 := (B7.out.cell (p := ⟨w.heap.size, 0, none⟩) (World.block_lt_of_cell? _ _ M0.out)).trans M0.out
      have x1 := (B7.out.cell (p := ⟨w.heap.size + 1, 0, none⟩) (World.block_lt_of_cell? _ _ M1.out)).trans M1.out
      have PR := Lib.hid (kpr_any w.heap.size (.slice B ts.length m) (.slice D f.length r) ts f hf a b w7 x0 x1 (H2.out.below W7.out) (H3.out.below W7.out))
      have S7 := Lib.hid s7
      have ce := prE_enter
      have TP := Lib.hid (th_pair (ts := ts.map tcT) (f := f) (seen := (l.take k).map idP) (x := (a, b)))
      rw [HLEN.out] at TP
      have SB := Lib.hid HE.out.lt
      have SL := Lib.hid HL.out.lt
      clear b7 HL HE s7 x0 x1 hc HB BW
      by_cases e1 : prE ts.length f a b ≠ 0
      · have R := Lib.hid (fb_stop hz.out hx (TP.out e1) e1)
        have ne := bne_true e1
        generalize prE ts.length f a b = z at PR R ne
        clear hz hx e1 TP hab
        go_wp2_with fail
        refine PR.out.mono ?_
        rintro e w8 ⟨rfl, b8⟩
        have W8 : Hid (Below w.heap.size w w8) := W7.out.trans (b8.mono W7.out.size)
        clear b8 PR
        go_wp2_with fail
        go_ret2
        exact ⟨ret_chk (by rw [R.out]) (by rw [R.out]), W8.out⟩
      have e1 := Decidable.not_not.1 e1
      obtain ⟨ga, gb, -, -, -⟩ := pr_good e1
      obtain ⟨i, rfl⟩ : ∃ i : Nat, a = (i : Int) := ⟨a.toNat, by omega⟩
      obtain ⟨j, rfl⟩ : ∃ j : Nat, b = (j : Int) := ⟨b.toNat, by omega⟩
      have HI := hab.1
      have JX := Lib.hid hab.2
      have IX := Lib.hid hab.1
      obtain ⟨⟨xi, xr, xc, xf, xv, xl⟩, tx⟩ := at_lt (l := ts) (k := i) (by omega)
      obtain ⟨⟨yi, yr, yc, yf, yv, yl⟩, ty⟩ := at_lt (l := ts) (k := j) (by omega)
      obtain ⟨xn, hxn⟩ : ∃ s, str xi = s := ⟨_, rfl⟩
      obtain ⟨yn, hyn⟩ : ∃ s, str yi = s := ⟨_, rfl⟩
      have gi : (i : Int) < (ts.length : Int) := ga.2
      have gj : (j : Int) < (ts.length : Int) := gb.2
      have ile : (i : Int) ≤ 9223372036854775807 := hab.1.2
      have jle : (j : Int) ≤ 9223372036854775807 := hab.2.2
      have hxl : xl.length ≤ 1000000 := HTS.out _ (List.mem_iff_getElem?.2 ⟨_, tx⟩)
      have TX := Lib.hid tx
      have TY := Lib.hid ty
      have XN := Lib.hid hxn
      have YN := Lib.hid hyn
      have AX := Lib.hid (tc_at tx)
      have AY := Lib.hid (tc_at ty)
      have E1 : Hid (prE (ts.map tcT).length f (i : Int) (j : Int) = 0) := by rw [HLEN.out]; exact e1
      rw [e1] at PR
      have HX := Lib.hid hx
      clear TP e1 ga gb HI hab tx ty hxn hyn hx
      go_wp2_with fail
      refine PR.out.mono ?_
      rintro e w8 ⟨rfl, b8⟩
      have B8 : Hid (Below w1.heap.size w1 w8) := B7.out.trans (b8.mono B7.out.size)
      have W8 : Hid (Below w.heap.size w w8) := W7.out.trans (b8.mono W7.out.size)
      have L8 := Lib.hid (L7.out.below b8)
      have E8 := Lib.hid (E7.out.below b8)
      have T8 := Lib.hid (H2.out.below W8.out)
      have p0 := (b8.cell (p := ⟨wr.heap.size, 0, none⟩) S7.out).trans p0
      have p1 := (b8.cell (p := ⟨wr.heap.size, 1, none⟩) S7.out).trans p1
      have S8 : Hid (wr.heap.size < w8.heap.size) := Nat.lt_of_lt_of_le S7.out b8.size
      clear b8 PR L7 E7 B7 W7 S7 r0 r1 hw7
      obtain ⟨bx, ox, Bx, mx, ex, rfl, hbx, x0, x1, x2, x3, x4, lx, -, -⟩ := trip_at T8.out TX.out XN.out
      obtain ⟨by_, oy, By, my, ey, rfl, hby, y0, y1, y2, y3, y4, ly, -, -⟩ := trip_at T8.out TY.out YN.out
      subst ex
      cases ey
      have HBX := Lib.hid hbx
      have KC := Lib.hid (fun W (hW : Below w8.heap.size w8 W) => far_one (kpass_any xn xr xc xf (.slice Bx xl.length mx) xl yn yr yc yf (.slice By yl.length my) yl hxl W (lx.below hW) (ly.below hW)) hW)
      clear hbx hby lx ly ce
      have THP := Lib.hid (th_pass (ts := ts.map tcT) (f := f) (seen := (l.take k).map idP) (x := ((i : Int), (j : Int))) E1.out)
      rw [show tcA (ts.map tcT) (((i : Int), (j : Int)) : Th).1 = (xc, xl) from AX.out, show tcA (ts.map tcT) (((i : Int), (j : Int)) : Th).2 = (yc, yl) from AY.out] at THP
      by_cases e2 : psE (xc, xl) (yc, yl) ≠ 0
      · have R := Lib.hid (fb_stop hz.out HX.out (THP.out e2) e2)
        have ne := bne_true e2
        generalize psE (xc, xl) (yc, yl) = z at KC R ne
        clear hz e2 THP
        go_wp2_with fail
        go_region_held3 (fun W => W.cell? ⟨wr.heap.size, 0, none⟩ = some (.int .i64 (i : Int)) ∧ W.cell? ⟨wr.heap.size, 1, none⟩ = some (.int .i64 (j : Int)) ∧ W.cell? ⟨bx, ox + i * 5, none⟩ = some (.string xn) ∧ W.cell? ⟨bx, ox + i * 5 + 1, none⟩ = some (.int .i64 xr) ∧ W.cell? ⟨bx, ox + i * 5 + 2, none⟩ = some (.int .i64 xc) ∧ W.cell? ⟨bx, ox + i * 5 + 3, none⟩ = some (.bool xf) ∧ W.cell? ⟨bx, ox + i * 5 + 4, none⟩ = some (.slice Bx xl.length mx) ∧ W.cell? ⟨bx, ox + j * 5, none⟩ = some (.string yn) ∧ W.cell? ⟨bx, ox + j * 5 + 1, none⟩ = some (.int .i64 yr) ∧ W.cell? ⟨bx, ox + j * 5 + 2, none⟩ = some (.int .i64 yc) ∧ W.cell? ⟨bx, ox + j * 5 + 3, none⟩ = some (.bool yf) ∧ W.cell? ⟨bx, ox + j * 5 + 4, none⟩ = some (.slice By yl.length my)) (first | assumption | (exact ⟨by assumption, by assumption, by assumption, by assumption, by assumption, by assumption, by assumption, by assumption, by assumption, by assumption, by assumption, by assumption⟩)) (first
          | (go_at_call 26; with_reducible refine (KC.out _ (by first | exact Below.refl _ _ | exact (Below.refl _ _).drew)).mono ?_; rintro e w9 ⟨rfl, b9⟩; have z0 := (b9.cell (p := ⟨wr.heap.size, 0, none⟩) S8.out).trans p0; have z1 := (b9.cell (p := ⟨wr.heap.size, 1, none⟩) S8.out).trans p1; have z2 := (b9.cell (p := ⟨bx, ox + i * 5, none⟩) HBX.out).trans x0; have z3 := (b9.cell (p := ⟨bx, ox + i * 5 + 1, none⟩) HBX.out).trans x1; have z4 := (b9.cell (p := ⟨bx, ox + i * 5 + 2, none⟩) HBX.out).trans x2; have z5 := (b9.cell (p := ⟨bx, ox + i * 5 + 3, none⟩) HBX.out).trans x3; have z6 := (b9.cell (p := ⟨bx, ox + i * 5 + 4, none⟩) HBX.out).trans x4; have z7 := (b9.cell (p := ⟨bx, ox + j * 5, none⟩) HBX.out).trans y0; have z8 := (b9.cell (p := ⟨bx, ox + j * 5 + 1, none⟩) HBX.out).trans y1; have z9 := (b9.cell (p := ⟨bx, ox + j * 5 + 2, none⟩) HBX.out).trans y2; have z10 := (b9.cell (p := ⟨bx, ox + j * 5 + 3, none⟩) HBX.out).trans y3; have z11 := (b9.cell (p := ⟨bx, ox + j * 5 + 4, none⟩) HBX.out).trans y4))
        have W9 : Hid (Below w.heap.size w w9) := W8.out.trans (b9.mono W8.out.size)
        clear b9 KC z0 z1 z2 z3 z4 z5 z6 z7 z8 z9 z10 z11
        go_wp2_with fail
        go_ret2
        exact ⟨ret_chk (by rw [R.out]) (by rw [R.out]), W9.out⟩
      have e2 := Decidable.not_not.1 e2
      rw [e2] at KC
      have E2 : Hid (psE (tcA (ts.map tcT) (i : Int)) (tcA (ts.map tcT) (j : Int)) = 0) := by rw [AX.out, AY.out]; exact e2
      clear THP e2
      go_wp2_with fail
      go_region_held3 (fun W => W.cell? ⟨wr.heap.size, 0, none⟩ = some (.int .i64 (i : Int)) ∧ W.cell? ⟨wr.heap.size, 1, none⟩ = some (.int .i64 (j : Int)) ∧ W.cell? ⟨bx, ox + i * 5, none⟩ = some (.string xn) ∧ W.cell? ⟨bx, ox + i * 5 + 1, none⟩ = some (.int .i64 xr) ∧ W.cell? ⟨bx, ox + i * 5 + 2, none⟩ = some (.int .i64 xc) ∧ W.cell? ⟨bx, ox + i * 5 + 3, none⟩ = some (.bool xf) ∧ W.cell? ⟨bx, ox + i * 5 + 4, none⟩ = some (.slice Bx xl.length mx) ∧ W.cell? ⟨bx, ox + j * 5, none⟩ = some (.string yn) ∧ W.cell? ⟨bx, ox + j * 5 + 1, none⟩ = some (.int .i64 yr) ∧ W.cell? ⟨bx, ox + j * 5 + 2, none⟩ = some (.int .i64 yc) ∧ W.cell? ⟨bx, ox + j * 5 + 3, none⟩ = some (.bool yf) ∧ W.cell? ⟨bx, ox + j * 5 + 4, none⟩ = some (.slice By yl.length my)) (first | assumption | (exact ⟨by assumption, by assumption, by assumption, by assumption, by assumption, by assumption, by assumption, by assumption, by assumption, by assumption, by assumption, by assumption⟩)) (first
        | (go_at_call 26; with_reducible refine (KC.out _ (by first | exact Below.refl _ _ | exact (Below.refl _ _).drew)).mono ?_; rintro e w9 ⟨rfl, b9⟩; have z0 := (b9.cell (p := ⟨wr.heap.size, 0, none⟩) S8.out).trans p0; have z1 := (b9.cell (p := ⟨wr.heap.size, 1, none⟩) S8.out).trans p1; have z2 := (b9.cell (p := ⟨bx, ox + i * 5, none⟩) HBX.out).trans x0; have z3 := (b9.cell (p := ⟨bx, ox + i * 5 + 1, none⟩) HBX.out).trans x1; have z4 := (b9.cell (p := ⟨bx, ox + i * 5 + 2, none⟩) HBX.out).trans x2; have z5 := (b9.cell (p := ⟨bx, ox + i * 5 + 3, none⟩) HBX.out).trans x3; have z6 := (b9.cell (p := ⟨bx, ox + i * 5 + 4, none⟩) HBX.out).trans x4; have z7 := (b9.cell (p := ⟨bx, ox + j * 5, none⟩) HBX.out).trans y0; have z8 := (b9.cell (p := ⟨bx, ox + j * 5 + 1, none⟩) HBX.out).trans y1; have z9 := (b9.cell (p := ⟨bx, ox + j * 5 + 2, none⟩) HBX.out).trans y2; have z10 := (b9.cell (p := ⟨bx, ox + j * 5 + 3, none⟩) HBX.out).trans y3; have z11 := (b9.cell (p := ⟨bx, ox + j * 5 + 4, none⟩) HBX.out).trans y4))
      have B9 : Hid (Below w1.heap.size w1 w9) := B8.out.trans (b9.mono B8.out.size)
      have W9 : Hid (Below w.heap.size w w9) := W8.out.trans (b9.mono W8.out.size)
      have L9 := Lib.hid (L8.out.below b9)
      have E9 := Lib.hid (E8.out.below b9)
      have S9 : Hid (wr.heap.size < w9.heap.size) := Nat.lt_of_lt_of_le S8.out b9.size
      have p0 := (b9.cell (p := ⟨wr.heap.size, 0, none⟩) S8.out).trans p0
      have p1 := (b9.cell (p := ⟨wr.heap.size, 1, none⟩) S8.out).trans p1
      clear z0 z1 z2 z3 z4 z5 z6 z7 z8 z9 z10 z11 x0 x1 x2 x3 x4 y0 y1 y2 y3 y4 b9 KC T8 L8 E8 B8 W8
      have mp := map_idP (l.take k)
      have lk1 := L9.out.look (i : Int) IX.out
      have lk2 := E9.out.look (j : Int) JX.out
      by_cases d1 : (i : Int) ∈ (l.take k).map Prod.fst
      · have R := Lib.hid (fb_stop hz.out HX.out (th_from (x := ((i : Int), (j : Int))) E1.out E2.out (by rw [mp]; exact d1)) (by decide))
        rw [decide_eq_true d1] at lk1
        clear hz d1 mp
        go_wp2_with fail
        go_ret2
        exact ⟨ret_chk (by rw [R.out]) (by rw [R.out]), W9.out⟩
      rw [decide_eq_false d1] at lk1
      by_cases d2 : (j : Int) ∈ (l.take k).map Prod.snd
      · have R := Lib.hid (fb_stop hz.out HX.out (th_to (x := ((i : Int), (j : Int))) E1.out E2.out (by rw [mp]; exact d2)) (by decide))
        rw [decide_eq_true d2] at lk2
        clear hz d1 d2 mp
        go_wp2_with fail
        go_ret2
        exact ⟨ret_chk (by rw [R.out]) (by rw [R.out]), W9.out⟩
      rw [decide_eq_false d2] at lk2
      obtain ⟨u, su, lu⟩ := ths_to (H1.out.below W9.out) k hk (by omega) (k : Int) rfl
      have CH := Lib.hid (fun W (hW : Below w9.heap.size w9 W) => far_own (kchain_any u (l.take k) (by rw [List.length_take]; omega) (HS.out.take k) (j : Int) JX.out W (lu.below hW)) hW)
      have cln := ch_len (l.take k) (j : Int)
      have CL : Hid ((chT (l.take k) (j : Int)).length ≤ 1000000) := Nat.le_trans cln (by rw [List.length_take]; omega)
      have CT := Lib.hid (fun v W (hv : LstI W v (chT (l.take k) (j : Int))) => kin_any v (chT (l.take k) (j : Int)) CL.out (i : Int) W hv)
      by_cases d3 : (i : Int) ∈ chT (l.take k) (j : Int)
      · have R := Lib.hid (fb_stop hz.out HX.out (th_link (x := ((i : Int), (j : Int))) E1.out E2.out (by rw [mp]; exact d1) (by rw [mp]; exact d2) (by rw [mp]; exact d3)) (by decide))
        rw [decide_eq_true d3] at CT
        generalize chT (l.take k) (j : Int) = cs at CH CT
        clear hz d1 d2 d3 mp cln CL lu
        go_wp2_with fail
        go_region_held3 (fun W => W.cell? ⟨wr.heap.size, 0, none⟩ = some (.int .i64 (i : Int)) ∧ W.cell? ⟨wr.heap.size, 1, none⟩ = some (.int .i64 (j : Int))) (first | assumption | (exact ⟨by assumption, by assumption⟩)) (first
          | (go_at_call 20; with_reducible refine (CH.out _ (by first | exact Below.refl _ _ | exact (Below.refl _ _).drew)).mono ?_; rintro e wa ⟨ua, rfl, la, ba⟩; have z0 := (ba.cell (p := ⟨wr.heap.size, 0, none⟩) S9.out).trans p0; have z1 := (ba.cell (p := ⟨wr.heap.size, 1, none⟩) S9.out).trans p1; have LA := Lib.hid la; have BA := Lib.hid ba; clear la ba)
          | (go_at_call 27; with_reducible refine (CT.out _ _ (by first | exact LA.out | exact LA.out.below (Below.refl _ _).drew)).mono ?_; rintro e w' ⟨rfl, rfl⟩))
        all_goals
          have Wa : Hid (Below w.heap.size w wa) := W9.out.trans (BA.out.mono W9.out.size)
          clear z0 z1 CH CT LA BA
          go_wp2_with fail
          go_ret2
          exact ⟨ret_chk (by rw [R.out]) (by rw [R.out]), Wa.out⟩
      have N := Lib.hid (fb_next hz.out HX.out (th_ok (x := ((i : Int), (j : Int))) E1.out E2.out (by rw [mp]; exact d1) (by rw [mp]; exact d2) (by rw [mp]; exact d3)))
      rw [decide_eq_false d3] at CT
      generalize chT (l.take k) (j : Int) = cs at CH CT
      have FT := Lib.hid (fst_take HX.out)
      have SN := Lib.hid (snd_take HX.out)
      have n1 : ((l.take k).map Prod.fst).length < 1000000 := by rw [List.length_map, List.length_take]; omega
      have n2 : ((l.take k).map Prod.snd).length < 1000000 := by rw [List.length_map, List.length_take]; omega
      have NN := Lib.hid (And.intro n1 n2)
      clear hz d1 d2 d3 mp cln CL lu n1 n2
      go_wp2_with fail
      go_region_held3 (fun W => W.cell? ⟨wr.heap.size, 0, none⟩ = some (.int .i64 (i : Int)) ∧ W.cell? ⟨wr.heap.size, 1, none⟩ = some (.int .i64 (j : Int))) (first | assumption | (exact ⟨by assumption, by assumption⟩)) (first
        | (go_at_call 20; with_reducible refine (CH.out _ (by first | exact Below.refl _ _ | exact (Below.refl _ _).drew)).mono ?_; rintro e wa ⟨ua, rfl, la, ba⟩; have z0 := (ba.cell (p := ⟨wr.heap.size, 0, none⟩) S9.out).trans p0; have z1 := (ba.cell (p := ⟨wr.heap.size, 1, none⟩) S9.out).trans p1; have LA := Lib.hid la; have BA := Lib.hid ba; clear la ba)
        | (go_at_call 27; with_reducible refine (CT.out _ _ (by first | exact LA.out | exact LA.out.below (Below.refl _ _).drew)).mono ?_; rintro e w' ⟨rfl, rfl⟩))
      all_goals
        have Ba : Hid (Below w1.heap.size w1 wa) := B9.out.trans (BA.out.mono B9.out.size)
        have La := Lib.hid (L9.out.below BA.out)
        have Ea := Lib.hid (E9.out.below BA.out)
        have Sa : Hid (wr.heap.size < wa.heap.size) := Nat.lt_of_lt_of_le S9.out BA.out.size
        have MNE : w1.heap.size ≠ w2.heap.size := by have := Z2.out; omega
        obtain ⟨v1, v2, ra1, ra2, g1, g2, s1, s2, k1, bl1⟩ := maps_two (w := wa) (W := wa.drew) (Below.refl _ _).drew MNE La.out Ea.out (i : Int) (j : Int) IX.out JX.out NN.out.1 NN.out.2
        obtain ⟨u1, u2, rb1, rb2, h1', h2', t1', t2', k2, bl2⟩ := maps_two (w := wa) (W := wa.drew) (Below.refl _ _).drew MNE.symm Ea.out La.out (j : Int) (i : Int) JX.out IX.out NN.out.2 NN.out.1
        have c0 := (World.cell?_of_block (a := ⟨wr.heap.size, 0, none⟩) (k1 wr.heap.size Sa.out (Nat.ne_of_gt SL.out))).trans z0
        have c1 := (World.cell?_of_block (a := ⟨wr.heap.size, 1, none⟩) (k1 wr.heap.size Sa.out (Nat.ne_of_gt SL.out))).trans z1
        have d0 := (World.cell?_of_block (a := ⟨wr.heap.size, 0, none⟩) (k2 wr.heap.size Sa.out (Nat.ne_of_gt SB.out))).trans z0
        have d1 := (World.cell?_of_block (a := ⟨wr.heap.size, 1, none⟩) (k2 wr.heap.size Sa.out (Nat.ne_of_gt SB.out))).trans z1
        have lw1 : w1.heap.size ≤ wa.heap.size := Ba.out.size
        have X1 : Hid (Below w1.heap.size w1 v2) := Ba.out.trans (bl1 _ lw1 (Nat.le_refl _) (Nat.le_of_lt Z2.out))
        have X2 : Hid (Below w1.heap.size w1 u2) := Ba.out.trans (bl2 _ lw1 (Nat.le_of_lt Z2.out) (Nat.le_refl _))
        have G1 : Hid (MapN v2 w1.heap.size ((l.take (k + 1)).map Prod.fst)) := by show MapN _ _ _; rw [FT.out]; exact g1
        have G2 : Hid (MapN v2 w2.heap.size ((l.take (k + 1)).map Prod.snd)) := by show MapN _ _ _; rw [SN.out]; exact g2
        have K2 : Hid (MapN u2 w1.heap.size ((l.take (k + 1)).map Prod.fst)) := by show MapN _ _ _; rw [FT.out]; exact h2'
        have K1 : Hid (MapN u2 w2.heap.size ((l.take (k + 1)).map Prod.snd)) := by show MapN _ _ _; rw [SN.out]; exact h1'
        clear g1 g2 h1' h2' k1 k2 bl1 bl2 s1 s2 t1' t2' La Ea Ba lw1 MNE FT SN p0 p1 su
        go_wp2_with fail
        go_region
        all_goals
          go_wp2_with fail
          go_roundw
          case rel => first | exact ⟨k + 1, by go_num, by omega, N, G1, G2, X1⟩ | exact ⟨k + 1, by go_num, by omega, N, K2, K1, X2⟩
          case measure => simp [intOf]; omega
    · have R := Lib.hid (fb_done hz.out (by omega))
      have d : decide (k < l.length) = false := by rw [decide_eq_false_iff_not]; exact hlt
      clear hz hlt HL HE
      go_wp2_with fail
      go_ret2
      exact ⟨ret_chk (by rw [R.out]) (by rw [R.out]), BW.out⟩
end Go.Proofs.Ytkballjadkhepaa
