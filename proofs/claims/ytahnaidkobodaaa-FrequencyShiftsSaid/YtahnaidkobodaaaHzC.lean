/-
  checkFrequency and Check of package frequency: what each call answers; nothing that existed before the call has changed behind it. Condition: lists of at most 1000 frequencies, trips of at most 1000000 calls.
-/
import Derived.Test.YtahnaidkobodaaaHzK
import Derived.Test.YtahnaidkobodaaaHzR
import Derived.Test.YtahnaidkobodaaaHzU
namespace Go.Proofs.Ytahnaidkobodaaa
open Go.RowKit

/-- The calls of a trip. -/
def clT (x : Tp) : List Cl := x.2.2.2.2.2
set_option maxRecDepth 100000 in
set_option maxHeartbeats 8000000 in
theorem kmet_any (t a b v t' a' b' v' : Int) (bk : Nat) (w : World) (h : w.heap[bk]? = some (boxF t a b v)) : Calls Try.prog 38 #[fqV t' a' b' v', .pointer (some ⟨bk, 0, none⟩)] w fun e w' => e = .returned (.bool (metF (t, a, b, v) (t', a', b', v'))) ∧ Below w.heap.size w w' := by
  obtain ⟨w7, hw7⟩ : ∃ W, w.alloc (boxF t' a' b' v') = W := ⟨_, rfl⟩
  obtain ⟨b7, p0, p1, p2, p3, s7, c7⟩ := box_fq hw7
  obtain ⟨q0, q1, q2, q3⟩ := row_fq ((b7.block bk (Array.getElem?_eq_some_iff.1 h).1).trans h)
  have B7 := Lib.hid b7
  clear b7 s7 c7 h
  by_cases ht : t = t'
  · have g := beq_true ht
    have R := Lib.hid (met_same (f := (t, a, b, v)) (g := (t', a', b', v')) ht)
    have C := Lib.hid (kovl_any t a b v t' a' b' v' w7)
    clear ht
    go_enter Try.func38, Try.ntmps38
    go_wp2_with fail
    refine C.out.mono ?_
    rintro e w1 ⟨rfl, b1⟩
    have B1 : Hid (Below w.heap.size w w1) := B7.out.trans (b1.mono B7.out.size)
    clear b1 C
    go_wp2_with fail
    go_ret
    exact ⟨ret_bool R.out.symm, B1.out⟩
  · have g := beq_false ht
    have R := Lib.hid (met_other (f := (t, a, b, v)) (g := (t', a', b', v')) ht)
    clear ht
    go_enter Try.func38, Try.ntmps38
    go_wp2_with fail
    go_ret
    exact ⟨ret_bool R.out.symm, B7.out⟩
theorem far_bool {f : FuncId} {args : Array Value} {w W : World} {x : Ending} (h : Calls Try.prog f args W fun e w' => e = x ∧ Below W.heap.size W w') (hb : Below w.heap.size w W) : Calls Try.prog f args W fun e w' => e = x ∧ Below w.heap.size w w' :=
  h.mono fun _ _ ⟨h1, h3⟩ => ⟨h1, hb.trans (h3.mono hb.size)⟩
theorem far_ints {f : FuncId} {args : Array Value} {w W : World} {l : List Int} (h : Calls Try.prog f args W fun e w' => ∃ u, e = .returned u ∧ OwnI w' W.heap.size u l ∧ Below W.heap.size W w') (hb : Below w.heap.size w W) : Calls Try.prog f args W fun e w' => ∃ u, e = .returned u ∧ LstI w' u l ∧ Below w.heap.size w w' :=
  h.mono fun _ _ ⟨u, h1, h2, h3⟩ => ⟨u, h1, OwnI.lst h2, hb.trans (h3.mono hb.size)⟩
set_option maxRecDepth 100000 in
set_option maxHeartbeats 8000000 in
theorem kckf_any (vl : Value) (l : List Fq) (hl : l.length ≤ 1000) (vt : Value) (ts : List Tp) (hts : ∀ x ∈ ts, (clT x).length ≤ 1000000) (i : Nat) (t a b v : Int) (hf : l[i]? = some (t, a, b, v)) (w : World) (h : LstF w vl l) (ht : LstTp w vt ts) :
    Calls Try.prog 26 #[vl, .int .i64 (i : Int), vt] w fun e w' => e = .returned (.int .i64 (badF (ts.map clT) (l.take i) (t, a, b, v))) ∧ Below w.heap.size w w' := by
  have hi := (List.getElem?_eq_some_iff.1 hf).1
  obtain ⟨A, n, rfl, -, -, -⟩ := id h
  obtain ⟨⟨D, m, rfl, -, -, -⟩, -⟩ := id ht
  obtain ⟨p, o, rfl, hp, m0, m1, m2, m3⟩ := four_at h hf
  obtain ⟨w7, hw7⟩ : ∃ W, w.alloc (boxF t a b v) = W := ⟨_, rfl⟩
  obtain ⟨b7, p0, p1, p2, p3, s7, c7⟩ := box_fq hw7
  have B7 := Lib.hid b7
  have C7 := Lib.hid c7
  have S7 := Lib.hid s7
  have H := Lib.hid (h.below b7)
  have HT := Lib.hid (ht.below b7)
  have TL : Hid ((ts.map clT).length = ts.length) := List.length_map _
  have gi : (i : Int) < (l.length : Int) := by omega
  have HF := Lib.hid hf
  clear b7 c7 s7 h ht hp hf
  by_cases n0 : t < 0
  · have R := Lib.hid (badF_ref (ts := ts.map clT) (seen := l.take i) (f := (t, a, b, v)) (.inl n0))
    clear hts hl hi
    go_enter Try.func26, Try.ntmps26
    go_wp2_with fail
    go_ret
    exact ⟨ret_int R.out.symm, B7.out⟩
  have g0 : decide (t < 0) = false := decide_eq_false n0
  by_cases n1 : (ts.length : Int) ≤ t
  · have R := Lib.hid (badF_ref (ts := ts.map clT) (seen := l.take i) (f := (t, a, b, v)) (.inr (by rw [TL.out]; exact n1)))
    clear hts hl hi
    go_enter Try.func26, Try.ntmps26
    go_wp2_with fail
    go_ret
    exact ⟨ret_int R.out.symm, B7.out⟩
  have n2 : ¬ ((ts.map clT).length : Int) ≤ t := by rw [TL.out]; exact n1
  obtain ⟨N, rfl⟩ : ∃ N : Nat, t = (N : Int) := ⟨t.toNat, by omega⟩
  have g1 : decide ((ts.length : Int) ≤ (N : Int)) = false := decide_eq_false n1
  have g1' : decide (ts.length ≤ N) = false := decide_eq_false (by omega)
  have K1 := Lib.hid (fun W (hW : Below w7.heap.size w7 W) => far_bool (ksnd_any (N : Int) a b v W) hW)
  cases h3 : sndF ((N : Int), a, b, v) with
  | false =>
    have R := Lib.hid (badF_sound (ts := ts.map clT) (seen := l.take i) n0 n2 h3)
    have D1 := Lib.hid (fun d os => Calls.regrown_of (w := w7) (d := d) (os := os) (ksnd_any (N : Int) a b v _))
    rw [h3] at D1
    have Q0 := fun d os => cell_regrown p0 d os
    have Q1 := fun d os => cell_regrown p1 d os
    have Q2 := fun d os => cell_regrown p2 d os
    have Q3 := fun d os => cell_regrown p3 d os
    clear hts hl hi h3 n0 n1 n2 K1
    go_enter Try.func26, Try.ntmps26
    go_wp2_with fail
    refine wp_region_quiet_below (by kernel_rfl) (by kernel_rfl) ?_
    repeat (go_big_quiet_step (first | with_reducible exact D1.out _ _))
    refine wpQuiet_nil ?_
    intro w1 hw1
    have B1 : Hid (Below w.heap.size w w1) := by
      obtain ⟨p, rfl⟩ := hw1
      exact B7.out.trans ((below_regrown w7 p.d p.os).mono B7.out.size)
    clear hw1 D1 Q0 Q1 Q2 Q3
    go_wp2_with fail
    go_ret
    exact ⟨ret_int R.out.symm, B1.out⟩
  | true =>
    rw [h3] at K1
    obtain ⟨⟨id, rr, kk, ff, cv, cl⟩, hx⟩ := at_lt (show N < ts.length by omega)
    obtain ⟨nm, hnm⟩ : ∃ nm, str id = nm := ⟨_, rfl⟩
    obtain ⟨bt, ot, BB, mm, rfl, rfl, hbt, r0, r1, r2, r3, r4, lc, -, oc⟩ := trip_at HT.out hx hnm
    have hcl : cl.length ≤ 1000000 := hts _ (List.mem_iff_getElem?.2 ⟨N, hx⟩)
    have HC : clsF (ts.map clT) ((N : Int), a, b, v) = cl := cls_at (n := N) rfl (by rw [List.getElem?_map, hx]; rfl)
    have K2 := Lib.hid (fun W (hW : Below w7.heap.size w7 W) => far_ints (kstarts_any (N : Int) a b v W) hW)
    rw [sts_yes h3] at K2
    have LL := lst_len ((N : Int), a, b, v)
    have LE := cnt_le h3
    have F1 := first_at h3
    have F2 := end_at h3
    have K3 := Lib.hid (fun W (hW : Below w7.heap.size w7 W) u (hu : LstI W u (lstF ((N : Int), a, b, v))) => far_bool (kall_any (.slice BB cl.length mm) cl hcl oc u (lstF ((N : Int), a, b, v)) (by omega) a (endF ((N : Int), a, b, v)) F1 F2 W (lc.below hW) hu) hW)
    have gN : (N : Int) < (ts.length : Int) := by omega
    have HBT := Lib.hid hbt
    have R4 := Lib.hid r4
    have e0 : (fitC cl a && fitC cl (endF ((N : Int), a, b, v))) = allF (clsF (ts.map clT) ((N : Int), a, b, v)) ((N : Int), a, b, v) := by rw [HC]; rfl
    rw [e0] at K3
    clear LL LE F1 F2 hx hnm lc oc hcl HC hts e0 hbt
    generalize lstF ((N : Int), a, b, v) = ls at K2 K3
    cases h4 : allF (clsF (ts.map clT) ((N : Int), a, b, v)) ((N : Int), a, b, v) with
    | false =>
      have R := Lib.hid (badF_time (ts := ts.map clT) (seen := l.take i) n0 n2 h4)
      rw [h4] at K3
      clear hl hi h3 h4 n0 n1 n2
      go_enter Try.func26, Try.ntmps26
      go_wp2_with fail
      go_region_held3 (fun W => W.cell? ⟨w.heap.size, 0, none⟩ = some (.int .i64 (N : Int)) ∧ W.cell? ⟨w.heap.size, 1, none⟩ = some (.int .i64 a) ∧ W.cell? ⟨w.heap.size, 2, none⟩ = some (.int .i64 b) ∧ W.cell? ⟨w.heap.size, 3, none⟩ = some (.int .i64 v) ∧ W.cell? ⟨bt, ot + N * 5 + 4, none⟩ = some (.slice BB cl.length mm)) (first | assumption | (exact ⟨by assumption, by assumption, by assumption, by assumption, by assumption⟩)) (first
        | (go_at_call 36; with_reducible refine (K1.out _ (by first | exact Below.refl _ _ | exact (Below.refl _ _).drew)).mono ?_; rintro e w1 ⟨rfl, b1⟩; obtain ⟨y0, y1, y2, y3⟩ := row_fq ((b1.block _ S7.out).trans C7.out); have y4 := (b1.cell (p := ⟨bt, ot + N * 5 + 4, none⟩) HBT.out).trans R4.out)
        | (go_at_call 15; with_reducible refine (K2.out _ b1).mono ?_; rintro e w2 ⟨u2, rfl, l2, b2⟩; obtain ⟨x0, x1, x2, x3⟩ := row_fq ((b2.block _ S7.out).trans C7.out); have x4 := (b2.cell (p := ⟨bt, ot + N * 5 + 4, none⟩) HBT.out).trans R4.out; have L2 := Lib.hid l2; clear l2)
        | (go_at_call 37; with_reducible refine (K3.out _ b2 _ L2.out).mono ?_; rintro e w3 ⟨rfl, b3⟩; obtain ⟨z0, z1, z2, z3⟩ := row_fq ((b3.block _ S7.out).trans C7.out); have z4 := (b3.cell (p := ⟨bt, ot + N * 5 + 4, none⟩) HBT.out).trans R4.out))
      all_goals
        have B3 : Hid (Below w.heap.size w w3) := B7.out.trans (b3.mono B7.out.size)
        clear b1 b2 b3 K1 K2 K3
        go_wp2_with fail
        go_ret
        exact ⟨ret_int R.out.symm, B3.out⟩
    | true =>
      rw [h4] at K3
      have TK := take_at l i _ HF.out
      obtain ⟨u6, hu6, l6⟩ := freqs_to H.out (i + 1) (by omega) (by omega) ((i : Int) + 1) (by omega)
      obtain ⟨u8, hu8, l8⟩ := freqs_to H.out i (by omega) (by omega) (i : Int) rfl
      have C6 := Lib.hid (fun W (hW : Below w7.heap.size w7 W) => kinst_any u6 (l.take (i + 1)) (by rw [List.length_take]; omega) (N : Int) W (l6.below hW))
      have C8 := Lib.hid (fun W (hW : Below w7.heap.size w7 W) => kcont_any 38 (.pointer (some ⟨w.heap.size, 0, none⟩)) (metF ((N : Int), a, b, v)) (enter_of Try.func38 (by kernel_rfl) (by kernel_rfl)) u8 (l.take i) (by rw [List.length_take]; omega) W (l8.below hW)
        (fun k t' a' b' v' _ W' hW' => kmet_any (N : Int) a b v t' a' b' v' w.heap.size W' ((hW'.block _ (Nat.lt_of_lt_of_le S7.out hW.size)).trans ((hW.block _ S7.out).trans C7.out))))
      have wi : IntKind.i64.wrap ((i : Int) + 1) = (i : Int) + 1 := IntWalk.i64_in _ (by omega)
      have E0 := Lib.hid (show (insF (N : Int) (l.take i ++ [((N : Int), a, b, v)])).length = (srtI (insF (N : Int) (l.take (i + 1)))).length by rw [srtI_len, TK])
      clear l6 l8 TK
      by_cases h5 : 256 < (insF (N : Int) (l.take i ++ [((N : Int), a, b, v)])).length
      · have R := Lib.hid (badF_many (ts := ts.map clT) (seen := l.take i) n0 n2 h3 h4 h5)
        rw [E0.out] at h5
        have g5 : (256 : Int) < ((srtI (insF (N : Int) (l.take (i + 1)))).length : Int) := by omega
        clear hl hi h3 h4 n0 n1 n2 h5
        go_enter Try.func26, Try.ntmps26
        go_wp2_with fail
        go_region_held3 (fun W => W.cell? ⟨w.heap.size, 0, none⟩ = some (.int .i64 (N : Int)) ∧ W.cell? ⟨w.heap.size, 1, none⟩ = some (.int .i64 a) ∧ W.cell? ⟨w.heap.size, 2, none⟩ = some (.int .i64 b) ∧ W.cell? ⟨w.heap.size, 3, none⟩ = some (.int .i64 v) ∧ W.cell? ⟨bt, ot + N * 5 + 4, none⟩ = some (.slice BB cl.length mm)) (first | assumption | (exact ⟨by assumption, by assumption, by assumption, by assumption, by assumption⟩)) (first
          | (go_at_call 36; with_reducible refine (K1.out _ (by first | exact Below.refl _ _ | exact (Below.refl _ _).drew)).mono ?_; rintro e w1 ⟨rfl, b1⟩; obtain ⟨y0, y1, y2, y3⟩ := row_fq ((b1.block _ S7.out).trans C7.out); have y4 := (b1.cell (p := ⟨bt, ot + N * 5 + 4, none⟩) HBT.out).trans R4.out)
          | (go_at_call 15; with_reducible refine (K2.out _ b1).mono ?_; rintro e w2 ⟨u2, rfl, l2, b2⟩; obtain ⟨x0, x1, x2, x3⟩ := row_fq ((b2.block _ S7.out).trans C7.out); have x4 := (b2.cell (p := ⟨bt, ot + N * 5 + 4, none⟩) HBT.out).trans R4.out; have L2 := Lib.hid l2; clear l2)
          | (go_at_call 37; with_reducible refine (K3.out _ b2 _ L2.out).mono ?_; rintro e w3 ⟨rfl, b3⟩; obtain ⟨z0, z1, z2, z3⟩ := row_fq ((b3.block _ S7.out).trans C7.out); have z4 := (b3.cell (p := ⟨bt, ot + N * 5 + 4, none⟩) HBT.out).trans R4.out))
        all_goals
          have B3 : Hid (Below w.heap.size w w3) := B7.out.trans (b3.mono B7.out.size)
          have BB3 := Lib.hid b3
          clear b1 b2 b3 K1 K2 K3 x0 x1 x2 x3 x4 y0 y1 y2 y3 y4 p0 p1 p2 p3 hw7
          go_wp2_with fail
          go_still_tail 6, (by kernel_rfl)
          change wpList _ _ _ _ _ w3.drew
          go_wp2_with fail
          refine (C6.out _ BB3.out.drew).mono ?_
          rintro e w4 ⟨u4, rfl, l4, b4⟩
          have b4' : Below w3.heap.size w3 w4 := (Below.refl _ w3).drew.trans b4
          have B4 : Hid (Below w.heap.size w w4) := B3.out.trans (b4'.mono B3.out.size)
          have BB4 : Hid (Below w7.heap.size w7 w4) := BB3.out.trans (b4'.mono BB3.out.size)
          obtain ⟨A4, c4, rfl, -⟩ := l4
          clear b4 b4' C6 C8 z0 z1 z2 z3 z4
          go_wp2_with fail
          go_ret
          exact ⟨ret_int R.out.symm, B4.out⟩
      have h5' := h5
      rw [E0.out] at h5'
      have g5 : decide ((256 : Int) < ((srtI (insF (N : Int) (l.take (i + 1)))).length : Int)) = false := decide_eq_false (by omega)
      have g5' : decide (256 < (srtI (insF (N : Int) (l.take (i + 1)))).length) = false := decide_eq_false h5'
      clear h5'
      cases h6 : hitF (l.take i) ((N : Int), a, b, v) with
      | true =>
        have R := Lib.hid (badF_met (ts := ts.map clT) (seen := l.take i) n0 n2 h3 h4 h5 h6)
        rw [show (l.take i).any (metF ((N : Int), a, b, v)) = true from h6] at C8
        clear hl hi h3 h4 n0 n1 n2 h5 h6
        go_enter Try.func26, Try.ntmps26
        go_wp2_with fail
        go_region_held3 (fun W => W.cell? ⟨w.heap.size, 0, none⟩ = some (.int .i64 (N : Int)) ∧ W.cell? ⟨w.heap.size, 1, none⟩ = some (.int .i64 a) ∧ W.cell? ⟨w.heap.size, 2, none⟩ = some (.int .i64 b) ∧ W.cell? ⟨w.heap.size, 3, none⟩ = some (.int .i64 v) ∧ W.cell? ⟨bt, ot + N * 5 + 4, none⟩ = some (.slice BB cl.length mm)) (first | assumption | (exact ⟨by assumption, by assumption, by assumption, by assumption, by assumption⟩)) (first
          | (go_at_call 36; with_reducible refine (K1.out _ (by first | exact Below.refl _ _ | exact (Below.refl _ _).drew)).mono ?_; rintro e w1 ⟨rfl, b1⟩; obtain ⟨y0, y1, y2, y3⟩ := row_fq ((b1.block _ S7.out).trans C7.out); have y4 := (b1.cell (p := ⟨bt, ot + N * 5 + 4, none⟩) HBT.out).trans R4.out)
          | (go_at_call 15; with_reducible refine (K2.out _ b1).mono ?_; rintro e w2 ⟨u2, rfl, l2, b2⟩; obtain ⟨x0, x1, x2, x3⟩ := row_fq ((b2.block _ S7.out).trans C7.out); have x4 := (b2.cell (p := ⟨bt, ot + N * 5 + 4, none⟩) HBT.out).trans R4.out; have L2 := Lib.hid l2; clear l2)
          | (go_at_call 37; with_reducible refine (K3.out _ b2 _ L2.out).mono ?_; rintro e w3 ⟨rfl, b3⟩; obtain ⟨z0, z1, z2, z3⟩ := row_fq ((b3.block _ S7.out).trans C7.out); have z4 := (b3.cell (p := ⟨bt, ot + N * 5 + 4, none⟩) HBT.out).trans R4.out))
        all_goals
          have B3 : Hid (Below w.heap.size w w3) := B7.out.trans (b3.mono B7.out.size)
          have BB3 := Lib.hid b3
          clear b1 b2 b3 K1 K2 K3 x0 x1 x2 x3 x4 y0 y1 y2 y3 y4 p0 p1 p2 p3 hw7
          go_wp2_with fail
          go_still_tail 6, (by kernel_rfl)
          change wpList _ _ _ _ _ w3.drew
          go_wp2_with fail
          refine (C6.out _ BB3.out.drew).mono ?_
          rintro e w4 ⟨u4, rfl, l4, b4⟩
          have b4' : Below w3.heap.size w3 w4 := (Below.refl _ w3).drew.trans b4
          have B4 : Hid (Below w.heap.size w w4) := B3.out.trans (b4'.mono B3.out.size)
          have BB4 : Hid (Below w7.heap.size w7 w4) := BB3.out.trans (b4'.mono BB3.out.size)
          obtain ⟨A4, c4, rfl, -⟩ := l4
          clear b4 b4' C6 z0 z1 z2 z3 z4
          go_wp2_with fail
          refine (C8.out _ BB4.out).mono ?_
          rintro e w5 ⟨rfl, b5⟩
          have B5 : Hid (Below w.heap.size w w5) := B4.out.trans (b5.mono B4.out.size)
          clear b5 C8
          go_wp2_with fail
          go_ret
          exact ⟨ret_int R.out.symm, B5.out⟩
      | false =>
        have R := Lib.hid (badF_none (ts := ts.map clT) (seen := l.take i) n0 n2 h3 h4 h5 h6)
        rw [show (l.take i).any (metF ((N : Int), a, b, v)) = false from h6] at C8
        clear hl hi h3 h4 n0 n1 n2 h5 h6
        go_enter Try.func26, Try.ntmps26
        go_wp2_with fail
        go_region_held3 (fun W => W.cell? ⟨w.heap.size, 0, none⟩ = some (.int .i64 (N : Int)) ∧ W.cell? ⟨w.heap.size, 1, none⟩ = some (.int .i64 a) ∧ W.cell? ⟨w.heap.size, 2, none⟩ = some (.int .i64 b) ∧ W.cell? ⟨w.heap.size, 3, none⟩ = some (.int .i64 v) ∧ W.cell? ⟨bt, ot + N * 5 + 4, none⟩ = some (.slice BB cl.length mm)) (first | assumption | (exact ⟨by assumption, by assumption, by assumption, by assumption, by assumption⟩)) (first
          | (go_at_call 36; with_reducible refine (K1.out _ (by first | exact Below.refl _ _ | exact (Below.refl _ _).drew)).mono ?_; rintro e w1 ⟨rfl, b1⟩; obtain ⟨y0, y1, y2, y3⟩ := row_fq ((b1.block _ S7.out).trans C7.out); have y4 := (b1.cell (p := ⟨bt, ot + N * 5 + 4, none⟩) HBT.out).trans R4.out)
          | (go_at_call 15; with_reducible refine (K2.out _ b1).mono ?_; rintro e w2 ⟨u2, rfl, l2, b2⟩; obtain ⟨x0, x1, x2, x3⟩ := row_fq ((b2.block _ S7.out).trans C7.out); have x4 := (b2.cell (p := ⟨bt, ot + N * 5 + 4, none⟩) HBT.out).trans R4.out; have L2 := Lib.hid l2; clear l2)
          | (go_at_call 37; with_reducible refine (K3.out _ b2 _ L2.out).mono ?_; rintro e w3 ⟨rfl, b3⟩; obtain ⟨z0, z1, z2, z3⟩ := row_fq ((b3.block _ S7.out).trans C7.out); have z4 := (b3.cell (p := ⟨bt, ot + N * 5 + 4, none⟩) HBT.out).trans R4.out))
        all_goals
          have B3 : Hid (Below w.heap.size w w3) := B7.out.trans (b3.mono B7.out.size)
          have BB3 := Lib.hid b3
          clear b1 b2 b3 K1 K2 K3 x0 x1 x2 x3 x4 y0 y1 y2 y3 y4 p0 p1 p2 p3 hw7
          go_wp2_with fail
          go_still_tail 6, (by kernel_rfl)
          change wpList _ _ _ _ _ w3.drew
          go_wp2_with fail
          refine (C6.out _ BB3.out.drew).mono ?_
          rintro e w4 ⟨u4, rfl, l4, b4⟩
          have b4' : Below w3.heap.size w3 w4 := (Below.refl _ w3).drew.trans b4
          have B4 : Hid (Below w.heap.size w w4) := B3.out.trans (b4'.mono B3.out.size)
          have BB4 : Hid (Below w7.heap.size w7 w4) := BB3.out.trans (b4'.mono BB3.out.size)
          obtain ⟨A4, c4, rfl, -⟩ := l4
          clear b4 b4' C6 z0 z1 z2 z3 z4
          go_wp2_with fail
          refine (C8.out _ BB4.out).mono ?_
          rintro e w5 ⟨rfl, b5⟩
          have B5 : Hid (Below w.heap.size w w5) := B4.out.trans (b5.mono B4.out.size)
          clear b5 C8
          go_wp2_with fail
          go_ret
          exact ⟨ret_int R.out.symm, B5.out⟩
set_option maxRecDepth 100000 in
set_option maxHeartbeats 8000000 in
theorem kchk_any (vl : Value) (l : List Fq) (hl : l.length ≤ 1000) (vt : Value) (ts : List Tp) (hts : ∀ x ∈ ts, (clT x).length ≤ 1000000) (w : World) (h : LstF w vl l) (ht : LstTp w vt ts) :
    Calls Try.prog 12 #[vl, vt] w fun e w' => e = .returned (.tuple #[.int .i64 ((chkF (ts.map clT) l).1), .int .i64 ((chkF (ts.map clT) l).2)]) ∧ Below w.heap.size w w' := by
  have H := Lib.hid h
  have HT := Lib.hid ht
  obtain ⟨A, n, rfl, -, -, -⟩ := h
  obtain ⟨⟨D, m, rfl, -, -, -⟩, -⟩ := ht
  obtain ⟨q, hq⟩ : ∃ q, chkF (ts.map clT) l = q := ⟨_, rfl⟩
  rw [hq]
  by_cases h0 : 64 < l.length
  · have E : Hid (q = (0, 5)) := by rw [← hq]; exact chkF_many h0
    have g : (64 : Int) < (l.length : Int) := by omega
    clear hq hts hl h0
    go_enter Try.func12, Try.ntmps12
    go_wp2_with fail
    go_ret2
    exact ⟨ret_chk (by rw [E.out]) (by rw [E.out]), Below.refl _ _⟩
  have ST : Hid (q = fbF (badF (ts.map clT)) (fun f => f) ((l.take 0).map fun f => f) 0 (l.drop 0)) := by rw [← hq]; exact chkF_start h0
  have g : decide ((64 : Int) < (l.length : Int)) = false := decide_eq_false (by omega)
  have g' : decide (64 < l.length) = false := decide_eq_false h0
  have C := Lib.hid (fun W (hW : Below w.heap.size w W) i t a b v hf => kckf_any (.slice A l.length n) l hl (.slice D ts.length m) ts hts i t a b v hf W (H.out.below hW) (HT.out.below hW))
  clear hq hts h0
  go_enter Try.func12, Try.ntmps12
  go_wp2_with fail
  go_loopw [13] (fun i wr => ∃ k : Nat, i = .int .i64 k ∧ k ≤ l.length ∧ Hid (q = fbF (badF (ts.map clT)) (fun f => f) ((l.take k).map fun f => f) k (l.drop k)) ∧ Hid (Below w.heap.size w wr)) (fun i _ => l.length - (intOf i).toNat)
  case atStart => exact ⟨0, rfl, Nat.zero_le _, ST, Lib.hid (Below.refl _ _)⟩
  case round =>
    clear ST g g'
    obtain ⟨k, rfl, hk, hz, HB⟩ := hrel
    by_cases hlt : k < l.length
    · obtain ⟨⟨t, a, b, v⟩, hf⟩ := at_lt hlt
      have gk : (k : Int) < (l.length : Int) := by omega
      have C1 := Lib.hid (C.out wr HB.out k t a b v hf)
      by_cases he : badF (ts.map clT) (l.take k) (t, a, b, v) = 0
      · have N := Lib.hid (ck_nextF hz.out hf he)
        rw [he] at C1
        clear hz hf he
        go_wp2_with fail
        refine C1.out.mono ?_
        rintro e w1 ⟨rfl, b1⟩
        have B1 : Hid (Below w.heap.size w w1) := HB.out.trans (b1.mono HB.out.size)
        clear b1 C1
        go_wp2_with fail
        go_roundw
        case rel => exact ⟨k + 1, by go_num, by omega, N, B1⟩
        case measure => simp [intOf]; omega
      · have R := Lib.hid (ck_stopF hz.out hf rfl he)
        generalize badF (ts.map clT) (l.take k) (t, a, b, v) = z at C1 he R
        have t1 := bne_true he
        clear hz hf he hlt
        go_wp2_with fail
        refine C1.out.mono ?_
        rintro e w1 ⟨rfl, b1⟩
        have B1 : Hid (Below w.heap.size w w1) := HB.out.trans (b1.mono HB.out.size)
        clear b1 C1
        go_wp2_with fail
        go_ret2
        exact ⟨ret_chk (by rw [R.out]) (by rw [R.out]), B1.out⟩
    · have R := Lib.hid (ck_doneF hz.out (by omega))
      have d : decide (k < l.length) = false := by rw [decide_eq_false_iff_not]; exact hlt
      clear hz hlt
      go_wp2_with fail
      go_ret2
      exact ⟨ret_chk (by rw [R.out]) (by rw [R.out]), HB.out⟩
end Go.Proofs.Ytahnaidkobodaaa
