/-
  The reference's Close and IsClosed; the laws' same (two lists of footpaths) and ints (two lists of integers): what each call answers; nothing that existed before the call has changed behind it. Conditions: lists of at most 4096 footpaths (same: a million); fewer than 2^40 ints.
-/
import Derived.Test.YtibakhobgfiklaaFpH
import Derived.Test.YtibakhobgfiklaaFpV
import Derived.Test.YtibakhobgfiklaaFpN
import Derived.Test.YtibakhobgfiklaaFqA
import Derived.Test.YtibakhobgfiklaaMb
namespace Go.Proofs.Ytibakhobgfiklaa
open Go.RowKit Go.Sort

set_option maxRecDepth 100000 in
set_option maxHeartbeats 2000000 in
theorem rclose_any (v : Value) (l : List Fp) (hl : l.length ≤ 4096) (st : Int) (w : World) (h : LstF w v l) :
    Calls Try.prog 15 #[v, .int .i64 st] w fun e w' => ∃ v', e = .returned (.tuple #[v', .int .i64 (clsE st l)]) ∧ LstF w' v' (clsL st l) ∧ RowKit.Below w.heap.size w w' := by
  have hh := h
  obtain ⟨A, c, rfl, -⟩ := hh
  by_cases h1 : 64 < st
  · have E : clsE st l = 5 := by unfold clsE; rw [if_pos h1]
    have L : clsL st l = [] := by unfold clsL; rw [if_pos h1]
    rw [E, L]
    clear E L h
    go_enter Try.func15, Try.ntmps15
    go_wp2_with fail
    go_ret2
    exact ⟨_, rfl, LstG.nil _ _, RowKit.Below.refl _ _⟩
  · have d1 : decide (64 < st) = false := decide_eq_false h1
    have CK := Lib.hid (rchk_any (.slice A l.length c) l (by omega) st w h)
    by_cases h2 : (chkP st l).2 = 0
    · have E : clsE st l = 0 := by unfold clsE; rw [if_neg h1, h2]
      have L : clsL st l = cloE st l := by unfold clsL; rw [if_neg h1, if_pos h2]
      rw [E, L]
      rw [h2] at CK
      have CL := Lib.hid (fun W (hb : RowKit.Below w.heap.size w W) => rclo_any (.slice A l.length c) l hl st (by omega) (chk_ok h2) W (h.below hb))
      have t : ((0 : Int) != 0) = false := rfl
      clear E L h h1 h2
      go_enter Try.func15, Try.ntmps15
      go_wp2_with fail
      refine CK.out.mono ?_
      rintro e w1 ⟨rfl, b1⟩
      have C1 := Lib.hid (CL.out w1 b1)
      have B1 := Lib.hid b1
      clear CK CL b1
      go_wp2_with fail
      refine C1.out.mono ?_
      rintro e w2 ⟨v2, rfl, o2, b2⟩
      have K := Lib.hid (And.intro o2 (B1.out.trans (b2.mono B1.out.size)))
      clear C1 B1 o2 b2
      go_wp2_with fail
      go_ret2
      exact ⟨_, rfl, K.out⟩
    · have E : clsE st l = (chkP st l).2 := by unfold clsE; rw [if_neg h1]
      have L : clsL st l = [] := by unfold clsL; rw [if_neg h1, if_neg h2]
      rw [E, L]
      have t := bne_true h2
      generalize chkP st l = q at *
      clear E L h h1 h2
      go_enter Try.func15, Try.ntmps15
      go_wp2_with fail
      refine CK.out.mono ?_
      rintro e w1 ⟨rfl, b1⟩
      have B1 := Lib.hid b1
      clear CK b1
      go_wp2_with fail
      go_ret2
      exact ⟨_, rfl, LstG.nil _ _, B1.out⟩
set_option maxRecDepth 100000 in
set_option maxHeartbeats 2000000 in
theorem same_fp (va vb : Value) (a b : List Fp) (ha : a.length ≤ 1000000) (w : World) (hA : LstF w va a) (hB : LstF w vb b) : Calls Try.prog 16 #[va, vb] w fun e w' => e = .returned (.bool (decide (a = b))) ∧ ∃ m, w' = w.drewN m := by
  have hh := hA
  obtain ⟨A, ca, rfl, -⟩ := hh
  have hh := hB
  obtain ⟨B, cb, rfl, -⟩ := hh
  have HA := Lib.hid hA
  have HB := Lib.hid hB
  clear hA hB
  by_cases hl : a.length = b.length
  · have d0 := neq_false (a := (a.length : Int)) (b := (b.length : Int)) (by omega)
    have HL := Lib.hid hl
    clear hl
    go_enter Try.func16, Try.ntmps16
    go_wp2_with fail
    go_loopw [5] (fun i wr => ∃ k : Nat, i = .int .i64 (k : Int) ∧ k ≤ a.length ∧ Hid (∀ j, j < k → a[j]? = b[j]?) ∧ Hid (∃ n, wr = w.drewN n)) (fun i _ => a.length - (intOf i).toNat)
    case atStart => exact ⟨0, rfl, Nat.zero_le _, Lib.hid (fun j hj => absurd hj (Nat.not_lt_zero _)), Lib.hid ⟨0, rfl⟩⟩
    case round =>
      obtain ⟨k, rfl, hk, HE, HD⟩ := hrel
      obtain ⟨n0, hn0⟩ := HD.out
      have BW : RowKit.Below w.heap.size w wr := by rw [hn0]; exact below_drewN (RowKit.Below.refl _ _) n0
      by_cases hlt : k < a.length
      · have gk : (k : Int) < (a.length : Int) := by omega
        have gk' : (k : Int) < (b.length : Int) := by have := HL.out; omega
        obtain ⟨x, hx⟩ := at_lt hlt
        obtain ⟨y, hy⟩ := at_lt (show k < b.length by have := HL.out; omega)
        obtain ⟨b1, o1, rfl, -, x0, x1, x2, x3⟩ := four_at (HA.out.below BW) (a := x.1) (b := x.2.1) (s := x.2.2.1) (f := x.2.2.2) hx
        obtain ⟨b2, o2, rfl, -, y0, y1, y2, y3⟩ := four_at (HB.out.below BW) (a := y.1) (b := y.2.1) (s := y.2.2.1) (f := y.2.2.2) hy
        obtain ⟨q, hq⟩ : ∃ q, (!decide (x.1 = y.1 ∧ x.2.1 = y.2.1 ∧ x.2.2.1 = y.2.2.1 ∧ x.2.2.2 = y.2.2.2)) = q := ⟨_, rfl⟩
        have NE := fun W => neq_fp x.1 x.2.1 x.2.2.1 y.1 y.2.1 y.2.2.1 x.2.2.2 y.2.2.2 q hq W
        cases q with
        | true =>
          have N : Hid (decide (a = b) = false) := by
            refine decide_eq_false (list_neq_at hx hy ?_)
            intro e
            have h0 := (fp_iff x y).2 e
            rw [decide_eq_true h0] at hq
            cases hq
          clear hx hy hq HE hn0 BW
          go_wp2_with fail
          go_quiet (fail)
          have B4 := drew_on HD nq
          generalize wr.drewN nq = w2 at B4 ⊢
          clear HD x0 x1 x2 x3 y0 y1 y2 y3
          go_wp2_with fail
          go_ret
          exact ⟨ret_bool N.out.symm, B4.out⟩
        | false =>
          have N : Hid (∀ j, j < k + 1 → a[j]? = b[j]?) := by
            intro j hj
            by_cases e : j = k
            · subst e
              have : x = y := (fp_iff x y).1 (of_decide_eq_true (by simpa using hq))
              rw [hx, hy, this]
            · exact HE.out j (by omega)
          clear hx hy hq HE hn0 BW
          go_wp2_with fail
          go_quiet (fail)
          have B4 := drew_on HD nq
          generalize wr.drewN nq = w2 at B4 ⊢
          clear HD x0 x1 x2 x3 y0 y1 y2 y3
          go_wp2_with fail
          go_roundw
          case rel => exact ⟨k + 1, by go_num, by omega, N, B4⟩
          case measure => simp [intOf]; omega
      · have d : decide (k < a.length) = false := by rw [decide_eq_false_iff_not]; exact hlt
        have N : Hid (decide (a = b) = true) := decide_eq_true (list_eq_all HL.out (fun j hj => HE.out j (by omega)))
        clear hlt HE hn0 BW
        go_wp2_with fail
        go_ret
        exact ⟨ret_bool N.out.symm, HD.out⟩
  · have d0 := bne_true (a := (a.length : Int)) (b := (b.length : Int)) (by omega)
    have N : Hid (decide (a = b) = false) := decide_eq_false (fun e => hl (by rw [e]))
    clear hl
    go_enter Try.func16, Try.ntmps16
    go_wp2_with fail
    go_ret
    exact ⟨ret_bool N.out.symm, ⟨0, rfl⟩⟩
set_option maxHeartbeats 1000000 in
theorem ints_law (u v : Value) (a b : List Int) (ha : a.length ≤ 1099511627776) (w : World) (h1 : LstI w u a) (h2 : LstI w v b) : Calls Try.prog 19 #[u, v] w fun e w' => e = .returned (.bool (decide (a = b))) ∧ ∃ m, w' = w.drewN m := by
  obtain ⟨A, c, rfl, _, _, hx⟩ := h1
  obtain ⟨B, d, rfl, _, _, hy⟩ := h2
  obtain ⟨r, hr⟩ : ∃ r, decide (a = b) = r := ⟨_, rfl⟩
  rw [hr]
  have HR := Lib.hid hr
  clear hr
  by_cases hl : a.length = b.length
  · have g : ((a.length : Int) != (b.length : Int)) = false := neq_false (by omega)
    have g' : (a.length != b.length) = false := by rw [hl]; simp
    have HX := Lib.hid hx
    have HY := Lib.hid hy
    have HL := Lib.hid hl
    clear hx hy hl
    go_enter Try.func19, Try.ntmps19
    go_wp2_with fail
    go_loopw [5] (fun i wr => ∃ k : Nat, i = .int .i64 k ∧ k ≤ a.length ∧ Hid (∀ (j : Nat) x, j < k → a[j]? = some x → b[j]? = some x) ∧ Hid (∃ n, wr = w.drewN n)) (fun i _ => a.length - (intOf i).toNat)
    case atStart => exact ⟨0, rfl, Nat.zero_le _, Lib.hid (fun j x hj => absurd hj (Nat.not_lt_zero _)), Lib.hid ⟨0, rfl⟩⟩
    case round =>
      clear g g'
      obtain ⟨k, rfl, hk, hall, hn⟩ := hrel
      by_cases hlt : k < a.length
      · obtain ⟨b1, o1, rfl, hb1, hc1⟩ := HX.out (by omega)
        obtain ⟨b2, o2, rfl, hb2, hc2⟩ := HY.out (by have := HL.out; omega)
        obtain ⟨x, hx⟩ := at_lt hlt
        obtain ⟨y, hy⟩ := at_lt (l := b) (k := k) (by have := HL.out; omega)
        have hbw := drew_below hn.out
        have m1 := (hbw.cell (p := ⟨b1, o1 + k, none⟩) hb1).trans (hc1 k _ (ints_at a k x hx))
        have m2 := (hbw.cell (p := ⟨b2, o2 + k, none⟩) hb2).trans (hc2 k _ (ints_at b k y hy))
        have gk : (k : Int) < (a.length : Int) := by omega
        have gk2 : (k : Int) < (b.length : Int) := by have := HL.out; omega
        clear hc1 hc2 hbw
        by_cases hxy : x = y
        · have ne : (x != y) = false := neq_false hxy
          have hall2 : Hid (∀ (j : Nat) z, j < k + 1 → a[j]? = some z → b[j]? = some z) := by
            intro j z hj hz
            by_cases hjk : j < k
            · exact hall.out j z hjk hz
            · obtain rfl : j = k := by omega
              rw [hx] at hz
              rw [hy, ← hxy]
              exact hz
          clear hx hy hxy hall HX HY
          go_wp2_with fail
          go_quiet (fail)
          go_wp2_with fail
          go_roundw
          case rel => exact ⟨k + 1, by go_num, by omega, hall2, drew_on hn nq⟩
          case measure => simp [intOf]; omega
        · have ne : (x != y) = true := bne_true hxy
          have R := Lib.hid (same_at k x y hx hy hxy)
          clear hx hy hxy hall HX HY
          go_wp2_with fail
          go_quiet (fail)
          go_wp2_with fail
          go_ret
          exact ⟨ret_bool (by rw [← HR.out, R.out]), (drew_on hn nq).out⟩
      · have R := Lib.hid (same_of HL.out (fun j x hj => hall.out j x (by omega)))
        have d : decide (k < a.length) = false := by rw [decide_eq_false_iff_not]; exact hlt
        clear hall hlt HX HY
        go_wp2_with fail
        go_ret
        exact ⟨ret_bool (by rw [← HR.out, R.out]), hn.out⟩
  · have g : ((a.length : Int) != (b.length : Int)) = true := bne_true (by omega)
    have g' : (a.length != b.length) = true := by simpa using hl
    have R : Hid (r = false) := by
      show _ = _
      rw [← HR.out, decide_eq_false_iff_not]
      exact fun e => hl (by rw [e])
    clear hx hy hl
    go_enter Try.func19, Try.ntmps19
    go_wp2_with fail
    go_ret
    exact ⟨ret_bool R.out.symm, 0, rfl⟩
set_option maxRecDepth 100000 in
set_option maxHeartbeats 4000000 in
theorem risc_any (v : Value) (l : List Fp) (hl : l.length ≤ 4096) (st : Int) (w : World) (h : LstF w v l) : Calls Try.prog 23 #[v, .int .i64 st] w fun e w' => e = .returned (.bool (iscF st l)) ∧ Below w.heap.size w w' := by
  have hh := h
  obtain ⟨A, c, rfl, -⟩ := hh
  by_cases h1 : 64 < st
  · have E : iscF st l = false := by unfold iscF; rw [if_pos h1]
    rw [E]
    clear E h
    go_enter Try.func23, Try.ntmps23
    go_wp2_with fail
    go_ret
    exact ⟨rfl, RowKit.Below.refl _ _⟩
  · have d1 : decide (64 < st) = false := decide_eq_false h1
    have CK := Lib.hid (rval_any (.slice A l.length c) l (by omega) st w h)
    by_cases h2 : (vldP st l).2 = 0
    · have E : iscF st l = decide (l = cloE st l) := by unfold iscF; rw [if_neg h1, if_pos h2]
      rw [E]
      rw [h2] at CK
      have CL := Lib.hid (fun W (hb : RowKit.Below w.heap.size w W) => rclo_any (.slice A l.length c) l hl st (by omega) (vld_ok h2) W (h.below hb))
      have t : ((0 : Int) != 0) = false := rfl
      have H := Lib.hid h
      clear E h h1 h2
      go_enter Try.func23, Try.ntmps23
      go_wp2_with fail
      refine CK.out.mono ?_
      rintro e w1 ⟨rfl, b1⟩
      have C1 := Lib.hid (CL.out w1 b1)
      have B1 := Lib.hid b1
      clear CK CL b1
      go_wp2_with fail
      refine C1.out.mono ?_
      rintro e w2 ⟨v2, rfl, o2, b2⟩
      have B2 := Lib.hid (B1.out.trans (b2.mono B1.out.size))
      have HA := Lib.hid o2
      have HB := Lib.hid (H.out.below B2.out)
      obtain ⟨A2, c2, rfl, -⟩ := _root_.id o2
      clear C1 B1 o2 b2 H
      obtain ⟨dd, hd⟩ : ∃ d, cloE st l = d := ⟨_, rfl⟩
      rw [hd] at HA ⊢
      have DD := Lib.hid hd
      clear hd
      have SY := Lib.hid (show decide (l = dd) = decide (dd = l) from decide_eq_decide.2 ⟨Eq.symm, Eq.symm⟩)
      by_cases hle : dd.length = l.length
      · have d0 := neq_false (a := (dd.length : Int)) (b := (l.length : Int)) (by omega)
        have HLL := Lib.hid hle
        clear hle
        go_wp2_with fail
        go_loopw [8] (fun i wr => ∃ k : Nat, i = .int .i64 (k : Int) ∧ k ≤ dd.length ∧ Hid (∀ j, j < k → dd[j]? = l[j]?) ∧ Hid (∃ n, wr = w2.drewN n)) (fun i _ => dd.length - (intOf i).toNat)
        case atStart => exact ⟨0, rfl, Nat.zero_le _, Lib.hid (fun j hj => absurd hj (Nat.not_lt_zero _)), Lib.hid ⟨0, rfl⟩⟩
        case round =>
          obtain ⟨k, rfl, hk, HE, HD⟩ := hrel
          obtain ⟨n0, hn0⟩ := HD.out
          have BW : RowKit.Below w2.heap.size w2 wr := by rw [hn0]; exact below_drewN (RowKit.Below.refl _ _) n0
          by_cases hlt : k < dd.length
          · have gk : (k : Int) < (dd.length : Int) := by omega
            have gk' : (k : Int) < (l.length : Int) := by have := HLL.out; omega
            obtain ⟨x, hx⟩ := at_lt hlt
            obtain ⟨y, hy⟩ := at_lt (show k < l.length by have := HLL.out; omega)
            obtain ⟨b1, o1, rfl, -, x0, x1, x2, x3⟩ := four_at (HA.out.below BW) (a := x.1) (b := x.2.1) (s := x.2.2.1) (f := x.2.2.2) hx
            obtain ⟨b2, o2, rfl, -, y0, y1, y2, y3⟩ := four_at (HB.out.below BW) (a := y.1) (b := y.2.1) (s := y.2.2.1) (f := y.2.2.2) hy
            obtain ⟨q, hq⟩ : ∃ q, (!decide (x.1 = y.1 ∧ x.2.1 = y.2.1 ∧ x.2.2.1 = y.2.2.1 ∧ x.2.2.2 = y.2.2.2)) = q := ⟨_, rfl⟩
            have NE := fun W => neq_fp x.1 x.2.1 x.2.2.1 y.1 y.2.1 y.2.2.1 x.2.2.2 y.2.2.2 q hq W
            cases q with
            | true =>
              have N : Hid (decide (dd = l) = false) := by
                refine decide_eq_false (list_neq_at hx hy ?_)
                intro e
                have h0 := (fp_iff x y).2 e
                rw [decide_eq_true h0] at hq
                cases hq
              clear hx hy hq HE hn0 BW
              go_wp2_with fail
              go_quiet (fail)
              have B4 := drew_on HD nq
              generalize wr.drewN nq = w4 at B4 ⊢
              clear HD x0 x1 x2 x3 y0 y1 y2 y3
              go_wp2_with fail
              go_ret
              exact ⟨ret_bool (by rw [DD.out]; exact (SY.out.trans N.out).symm), B2.out.trans ((drew_below B4.out).mono B2.out.size)⟩
            | false =>
              have N : Hid (∀ j, j < k + 1 → dd[j]? = l[j]?) := by
                intro j hj
                by_cases e : j = k
                · subst e
                  have : x = y := (fp_iff x y).1 (of_decide_eq_true (by simpa using hq))
                  rw [hx, hy, this]
                · exact HE.out j (by omega)
              clear hx hy hq HE hn0 BW
              go_wp2_with fail
              go_quiet (fail)
              have B4 := drew_on HD nq
              generalize wr.drewN nq = w4 at B4 ⊢
              clear HD x0 x1 x2 x3 y0 y1 y2 y3
              go_wp2_with fail
              go_roundw
              case rel => exact ⟨k + 1, by go_num, by omega, N, B4⟩
              case measure => simp [intOf]; omega
          · have d : decide (k < dd.length) = false := by rw [decide_eq_false_iff_not]; exact hlt
            have N : Hid (decide (dd = l) = true) := decide_eq_true (list_eq_all HLL.out (fun j hj => HE.out j (by omega)))
            clear hlt HE hn0 BW
            go_wp2_with fail
            go_ret
            exact ⟨ret_bool (by rw [DD.out]; exact (SY.out.trans N.out).symm), B2.out.trans ((drew_below HD.out).mono B2.out.size)⟩
      · have d0 := bne_true (a := (dd.length : Int)) (b := (l.length : Int)) (by omega)
        have N : Hid (decide (dd = l) = false) := decide_eq_false (fun e => hle (by rw [e]))
        clear hle
        go_wp2_with fail
        go_ret
        exact ⟨ret_bool (by rw [DD.out]; exact (SY.out.trans N.out).symm), B2.out⟩
    · have E : iscF st l = false := by unfold iscF; rw [if_neg h1, if_neg h2]
      rw [E]
      have t := bne_true h2
      generalize vldP st l = q at *
      clear E h h1 h2
      go_enter Try.func23, Try.ntmps23
      go_wp2_with fail
      refine CK.out.mono ?_
      rintro e w1 ⟨rfl, b1⟩
      have B1 := Lib.hid b1
      clear CK b1
      go_wp2_with fail
      go_ret
      exact ⟨rfl, B1.out⟩
end Go.Proofs.Ytibakhobgfiklaa
