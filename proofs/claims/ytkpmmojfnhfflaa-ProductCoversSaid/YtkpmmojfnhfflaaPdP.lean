/-
  Price of package product and of its reference: what each call answers; nothing that existed before the call has changed behind it. Condition: lists of fewer than 2^63 products.
-/
import Derived.Test.YtkpmmojfnhfflaaPdC
import Derived.Test.YtkpmmojfnhfflaaPdR
import Derived.Test.YtkpmmojfnhfflaaPdA
namespace Go.Proofs.Ytkpmmojfnhfflaa
open Go.RowKit

theorem ret_pr {a b : Int} {c d : Bool} {q : Int × Bool} (h : q = (b, d)) (k : a = b) (j : c = d) : Ending.returned (.tuple #[.int .i64 a, .bool c]) = .returned (.tuple #[.int .i64 q.1, .bool q.2]) := by rw [h, k, j]
set_option maxRecDepth 100000 in
set_option maxHeartbeats 4000000 in
theorem kpr_any (vl : Value) (l : List Pd) (d wi c : Int) (hl : l.length ≤ 9223372036854775807) (i : Int) (first : Bool) (wt : Int) (w : World) (h : LstPd w vl l) :
    Calls Try.prog 18 #[faV vl d wi c, .int .i64 i, .bool first, .int .i64 wt] w fun e w' => e = .returned (.tuple #[.int .i64 ((prA d wi c l i first wt).1), .bool ((prA d wi c l i first wt).2)]) ∧ Below w.heap.size w w' := by
  obtain ⟨w7, hw7⟩ : ∃ W, w.alloc (boxFa vl d wi c) = W := ⟨_, rfl⟩
  obtain ⟨b7, p0, p1, p2, p3, s7, h7⟩ := box_fa hw7
  have B7 := Lib.hid b7
  have H7 := Lib.hid (h.below b7)
  have V := Lib.hid (kvalid_any vl l d wi c hl w7 (h.below b7))
  obtain ⟨A, n, rfl, -, -, -⟩ := h
  obtain ⟨ans, hans⟩ : ∃ q, prA d wi c l i first wt = q := ⟨_, rfl⟩
  rw [hans]
  clear b7 h7
  by_cases hv : (chkPd d wi c l).2 = 0
  · rw [decide_eq_true hv] at V
    by_cases h0 : i < 0
    · have R := Lib.hid (hans.symm.trans (prA_neg h0))
      clear hv hans 
      go_enter Try.func18, Try.ntmps18
      go_wp2_with fail
      refine V.out.mono ?_
      rintro e w8 ⟨rfl, b8⟩
      have k0 := (b8.cell (p := ⟨w.heap.size, 0, none⟩) s7).trans p0
      have k1 := (b8.cell (p := ⟨w.heap.size, 1, none⟩) s7).trans p1
      have k2 := (b8.cell (p := ⟨w.heap.size, 2, none⟩) s7).trans p2
      have B8 : Hid (Below w.heap.size w w8) := B7.out.trans (b8.mono B7.out.size)
      have H8 := Lib.hid (H7.out.below b8)
      clear b8 B7 H7 V p0 p1 p2 p3
      go_wp2_with fail
      go_ret2
      exact ⟨ret_pr R.out rfl rfl, B8.out⟩
    have g0 : decide (i < 0) = false := decide_eq_false h0
    by_cases h1 : (l.length : Int) ≤ i
    · have R := Lib.hid (hans.symm.trans (prA_far h1))
      clear hv hans h0 
      go_enter Try.func18, Try.ntmps18
      go_wp2_with fail
      refine V.out.mono ?_
      rintro e w8 ⟨rfl, b8⟩
      have k0 := (b8.cell (p := ⟨w.heap.size, 0, none⟩) s7).trans p0
      have k1 := (b8.cell (p := ⟨w.heap.size, 1, none⟩) s7).trans p1
      have k2 := (b8.cell (p := ⟨w.heap.size, 2, none⟩) s7).trans p2
      have B8 : Hid (Below w.heap.size w w8) := B7.out.trans (b8.mono B7.out.size)
      have H8 := Lib.hid (H7.out.below b8)
      clear b8 B7 H7 V p0 p1 p2 p3
      go_wp2_with fail
      go_ret2
      exact ⟨ret_pr R.out rfl rfl, B8.out⟩
    have g1 : decide ((l.length : Int) ≤ i) = false := decide_eq_false h1
    obtain ⟨j, rfl⟩ := Int.eq_ofNat_of_zero_le (show 0 ≤ i by omega)
    have g1' : decide (l.length ≤ j) = false := decide_eq_false (by omega)
    obtain ⟨⟨id, p, r, z, t, m⟩, hx⟩ := at_lt (show j < l.length by omega)
    obtain ⟨nm, hnm⟩ : ∃ nm, str id = nm := ⟨_, rfl⟩
    have R := hans.symm.trans (prA_at hv hx)
    have gj : (j : Int) < (l.length : Int) := by omega
    have gj0 : decide ((j : Int) < 0) = false := decide_eq_false (by omega)
    have hp : 0 ≤ p ∧ p ≤ 1000000 := (acc_at hv hx).1
    have hd : 0 ≤ d ∧ d ≤ 1000000 := (acc_own hv).1
    obtain ⟨hp0, hp1⟩ := hp
    obtain ⟨hd0, hd1⟩ := hd
    have X := Lib.hid (fun W (hW : LstPd W (.slice A l.length n) l) => six_at hW hx hnm)
    clear hv hans h0 h1 g0 hx hnm 
    cases first with
    | true =>
      rw [prc_full (.inl rfl)] at R
      replace R := Lib.hid R
      go_enter Try.func18, Try.ntmps18
      go_wp2_with fail
      refine V.out.mono ?_
      rintro e w8 ⟨rfl, b8⟩
      have k0 := (b8.cell (p := ⟨w.heap.size, 0, none⟩) s7).trans p0
      have k1 := (b8.cell (p := ⟨w.heap.size, 1, none⟩) s7).trans p1
      have k2 := (b8.cell (p := ⟨w.heap.size, 2, none⟩) s7).trans p2
      have B8 : Hid (Below w.heap.size w w8) := B7.out.trans (b8.mono B7.out.size)
      have H8 := Lib.hid (H7.out.below b8)
      clear b8 B7 H7 V p0 p1 p2 p3
      obtain ⟨b, o, rfl, hb, r0, r1, r2, r3, r4, r5⟩ := X.out _ H8.out
      clear hb X H8 r0 r2 r3 r4 r5
      go_wp2_with fail
      go_ret2
      exact ⟨ret_pr R.out rfl rfl, B8.out⟩
    | false =>
      by_cases h2 : wi < wt
      · rw [prc_full (.inr h2)] at R
        replace R := Lib.hid R
        go_enter Try.func18, Try.ntmps18
        go_wp2_with fail
        refine V.out.mono ?_
        rintro e w8 ⟨rfl, b8⟩
        have k0 := (b8.cell (p := ⟨w.heap.size, 0, none⟩) s7).trans p0
        have k1 := (b8.cell (p := ⟨w.heap.size, 1, none⟩) s7).trans p1
        have k2 := (b8.cell (p := ⟨w.heap.size, 2, none⟩) s7).trans p2
        have B8 : Hid (Below w.heap.size w w8) := B7.out.trans (b8.mono B7.out.size)
        have H8 := Lib.hid (H7.out.below b8)
        clear b8 B7 H7 V p0 p1 p2 p3
        obtain ⟨b, o, rfl, hb, r0, r1, r2, r3, r4, r5⟩ := X.out _ H8.out
        clear hb X H8 r0 r2 r3 r4 r5
        go_wp2_with fail
        go_ret2
        exact ⟨ret_pr R.out rfl rfl, B8.out⟩
      have g2 : decide (wi < wt) = false := decide_eq_false h2
      rw [prc_max h2] at R
      replace R := Lib.hid R
      clear h2
      go_enter Try.func18, Try.ntmps18
      go_wp2_with fail
      refine V.out.mono ?_
      rintro e w8 ⟨rfl, b8⟩
      have k0 := (b8.cell (p := ⟨w.heap.size, 0, none⟩) s7).trans p0
      have k1 := (b8.cell (p := ⟨w.heap.size, 1, none⟩) s7).trans p1
      have k2 := (b8.cell (p := ⟨w.heap.size, 2, none⟩) s7).trans p2
      have B8 : Hid (Below w.heap.size w w8) := B7.out.trans (b8.mono B7.out.size)
      have H8 := Lib.hid (H7.out.below b8)
      clear b8 B7 H7 V p0 p1 p2 p3
      obtain ⟨b, o, rfl, hb, r0, r1, r2, r3, r4, r5⟩ := X.out _ H8.out
      clear hb X H8 r0 r2 r3 r4 r5
      go_wp2_with fail
      all_goals go_ret2
      all_goals first | exact ⟨ret_pr (a := 0) R.out (by omega) rfl, B8.out⟩ | exact ⟨ret_pr (a := p - d) R.out (by omega) rfl, B8.out⟩
  · have R := Lib.hid (hans.symm.trans (prA_bad hv))
    rw [decide_eq_false hv] at V
    clear hv hans
    go_enter Try.func18, Try.ntmps18
    go_wp2_with fail
    refine V.out.mono ?_
    rintro e w8 ⟨rfl, b8⟩
    have k0 := (b8.cell (p := ⟨w.heap.size, 0, none⟩) s7).trans p0
    have k1 := (b8.cell (p := ⟨w.heap.size, 1, none⟩) s7).trans p1
    have k2 := (b8.cell (p := ⟨w.heap.size, 2, none⟩) s7).trans p2
    have B8 : Hid (Below w.heap.size w w8) := B7.out.trans (b8.mono B7.out.size)
    have H8 := Lib.hid (H7.out.below b8)
    clear b8 B7 H7 V p0 p1 p2 p3
    go_wp2_with fail
    go_ret2
    exact ⟨ret_pr R.out rfl rfl, B8.out⟩
set_option maxRecDepth 100000 in
set_option maxHeartbeats 4000000 in
theorem rpr_any (vl : Value) (l : List Pd) (d wi c : Int) (hl : l.length ≤ 9223372036854775807) (i : Int) (first : Bool) (wt : Int) (w : World) (h : LstPd w vl l) :
    Calls Try.prog 19 #[faV vl d wi c, .int .i64 i, .bool first, .int .i64 wt] w fun e w' => e = .returned (.tuple #[.int .i64 ((prA d wi c l i first wt).1), .bool ((prA d wi c l i first wt).2)]) ∧ Below w.heap.size w w' := by
  obtain ⟨w7, hw7⟩ : ∃ W, w.alloc (boxFa vl d wi c) = W := ⟨_, rfl⟩
  obtain ⟨b7, p0, p1, p2, p3, s7, h7⟩ := box_fa hw7
  have B7 := Lib.hid b7
  have H7 := Lib.hid (h.below b7)
  have V := Lib.hid (rcheck_any vl l d wi c hl w7 (h.below b7))
  obtain ⟨A, n, rfl, -, -, -⟩ := h
  obtain ⟨ans, hans⟩ : ∃ q, prA d wi c l i first wt = q := ⟨_, rfl⟩
  rw [hans]
  clear b7 h7
  by_cases hv : (chkPd d wi c l).2 = 0
  · obtain ⟨a0, ha0⟩ : ∃ a, (chkPd d wi c l).1 = a := ⟨_, rfl⟩
    rw [hv, ha0] at V
    by_cases h0 : i < 0
    · have R := Lib.hid (hans.symm.trans (prA_neg h0))
      clear hv hans ha0
      go_enter Try.func19, Try.ntmps19
      go_wp2_with fail
      refine V.out.mono ?_
      rintro e w8 ⟨rfl, b8⟩
      have k0 := (b8.cell (p := ⟨w.heap.size, 0, none⟩) s7).trans p0
      have k1 := (b8.cell (p := ⟨w.heap.size, 1, none⟩) s7).trans p1
      have k2 := (b8.cell (p := ⟨w.heap.size, 2, none⟩) s7).trans p2
      have B8 : Hid (Below w.heap.size w w8) := B7.out.trans (b8.mono B7.out.size)
      have H8 := Lib.hid (H7.out.below b8)
      clear b8 B7 H7 V p0 p1 p2 p3
      go_wp2_with fail
      go_ret2
      exact ⟨ret_pr R.out rfl rfl, B8.out⟩
    have g0 : decide (i < 0) = false := decide_eq_false h0
    by_cases h1 : (l.length : Int) ≤ i
    · have R := Lib.hid (hans.symm.trans (prA_far h1))
      clear hv hans h0 ha0
      go_enter Try.func19, Try.ntmps19
      go_wp2_with fail
      refine V.out.mono ?_
      rintro e w8 ⟨rfl, b8⟩
      have k0 := (b8.cell (p := ⟨w.heap.size, 0, none⟩) s7).trans p0
      have k1 := (b8.cell (p := ⟨w.heap.size, 1, none⟩) s7).trans p1
      have k2 := (b8.cell (p := ⟨w.heap.size, 2, none⟩) s7).trans p2
      have B8 : Hid (Below w.heap.size w w8) := B7.out.trans (b8.mono B7.out.size)
      have H8 := Lib.hid (H7.out.below b8)
      clear b8 B7 H7 V p0 p1 p2 p3
      go_wp2_with fail
      go_ret2
      exact ⟨ret_pr R.out rfl rfl, B8.out⟩
    have g1 : decide ((l.length : Int) ≤ i) = false := decide_eq_false h1
    obtain ⟨j, rfl⟩ := Int.eq_ofNat_of_zero_le (show 0 ≤ i by omega)
    have g1' : decide (l.length ≤ j) = false := decide_eq_false (by omega)
    obtain ⟨⟨id, p, r, z, t, m⟩, hx⟩ := at_lt (show j < l.length by omega)
    obtain ⟨nm, hnm⟩ : ∃ nm, str id = nm := ⟨_, rfl⟩
    have R := hans.symm.trans (prA_at hv hx)
    have gj : (j : Int) < (l.length : Int) := by omega
    have gj0 : decide ((j : Int) < 0) = false := decide_eq_false (by omega)
    have hp : 0 ≤ p ∧ p ≤ 1000000 := (acc_at hv hx).1
    have hd : 0 ≤ d ∧ d ≤ 1000000 := (acc_own hv).1
    obtain ⟨hp0, hp1⟩ := hp
    obtain ⟨hd0, hd1⟩ := hd
    have X := Lib.hid (fun W (hW : LstPd W (.slice A l.length n) l) => six_at hW hx hnm)
    clear hv hans h0 h1 g0 hx hnm ha0
    cases first with
    | true =>
      rw [prc_full (.inl rfl)] at R
      replace R := Lib.hid R
      go_enter Try.func19, Try.ntmps19
      go_wp2_with fail
      refine V.out.mono ?_
      rintro e w8 ⟨rfl, b8⟩
      have k0 := (b8.cell (p := ⟨w.heap.size, 0, none⟩) s7).trans p0
      have k1 := (b8.cell (p := ⟨w.heap.size, 1, none⟩) s7).trans p1
      have k2 := (b8.cell (p := ⟨w.heap.size, 2, none⟩) s7).trans p2
      have B8 : Hid (Below w.heap.size w w8) := B7.out.trans (b8.mono B7.out.size)
      have H8 := Lib.hid (H7.out.below b8)
      clear b8 B7 H7 V p0 p1 p2 p3
      obtain ⟨b, o, rfl, hb, r0, r1, r2, r3, r4, r5⟩ := X.out _ H8.out
      clear hb X H8 r0 r2 r3 r4 r5
      go_wp2_with fail
      go_ret2
      exact ⟨ret_pr R.out rfl rfl, B8.out⟩
    | false =>
      by_cases h2 : wi < wt
      · rw [prc_full (.inr h2)] at R
        replace R := Lib.hid R
        go_enter Try.func19, Try.ntmps19
        go_wp2_with fail
        refine V.out.mono ?_
        rintro e w8 ⟨rfl, b8⟩
        have k0 := (b8.cell (p := ⟨w.heap.size, 0, none⟩) s7).trans p0
        have k1 := (b8.cell (p := ⟨w.heap.size, 1, none⟩) s7).trans p1
        have k2 := (b8.cell (p := ⟨w.heap.size, 2, none⟩) s7).trans p2
        have B8 : Hid (Below w.heap.size w w8) := B7.out.trans (b8.mono B7.out.size)
        have H8 := Lib.hid (H7.out.below b8)
        clear b8 B7 H7 V p0 p1 p2 p3
        obtain ⟨b, o, rfl, hb, r0, r1, r2, r3, r4, r5⟩ := X.out _ H8.out
        clear hb X H8 r0 r2 r3 r4 r5
        go_wp2_with fail
        go_ret2
        exact ⟨ret_pr R.out rfl rfl, B8.out⟩
      have g2 : decide (wi < wt) = false := decide_eq_false h2
      by_cases h3 : p < d
      · rw [prc_less h2 h3] at R
        replace R := Lib.hid R
        clear h2
        go_enter Try.func19, Try.ntmps19
        go_wp2_with fail
        refine V.out.mono ?_
        rintro e w8 ⟨rfl, b8⟩
        have k0 := (b8.cell (p := ⟨w.heap.size, 0, none⟩) s7).trans p0
        have k1 := (b8.cell (p := ⟨w.heap.size, 1, none⟩) s7).trans p1
        have k2 := (b8.cell (p := ⟨w.heap.size, 2, none⟩) s7).trans p2
        have B8 : Hid (Below w.heap.size w w8) := B7.out.trans (b8.mono B7.out.size)
        have H8 := Lib.hid (H7.out.below b8)
        clear b8 B7 H7 V p0 p1 p2 p3
        obtain ⟨b, o, rfl, hb, r0, r1, r2, r3, r4, r5⟩ := X.out _ H8.out
        clear hb X H8 r0 r2 r3 r4 r5
        go_wp2_with fail
        go_ret2
        exact ⟨ret_pr R.out rfl rfl, B8.out⟩
      have g3 : decide (p < d) = false := decide_eq_false h3
      rw [prc_cut h2 h3] at R
      replace R := Lib.hid R
      clear h2 h3
      go_enter Try.func19, Try.ntmps19
      go_wp2_with fail
      refine V.out.mono ?_
      rintro e w8 ⟨rfl, b8⟩
      have k0 := (b8.cell (p := ⟨w.heap.size, 0, none⟩) s7).trans p0
      have k1 := (b8.cell (p := ⟨w.heap.size, 1, none⟩) s7).trans p1
      have k2 := (b8.cell (p := ⟨w.heap.size, 2, none⟩) s7).trans p2
      have B8 : Hid (Below w.heap.size w w8) := B7.out.trans (b8.mono B7.out.size)
      have H8 := Lib.hid (H7.out.below b8)
      clear b8 B7 H7 V p0 p1 p2 p3
      obtain ⟨b, o, rfl, hb, r0, r1, r2, r3, r4, r5⟩ := X.out _ H8.out
      clear hb X H8 r0 r2 r3 r4 r5
      go_wp2_with fail
      go_ret2
      exact ⟨ret_pr R.out (by go_num) rfl, B8.out⟩
  · have R := Lib.hid (hans.symm.trans (prA_bad hv))
    have ne := bne_true hv
    generalize (chkPd d wi c l).1 = a0 at V
    generalize (chkPd d wi c l).2 = a1 at V ne
    clear hv hans
    go_enter Try.func19, Try.ntmps19
    go_wp2_with fail
    refine V.out.mono ?_
    rintro e w8 ⟨rfl, b8⟩
    have k0 := (b8.cell (p := ⟨w.heap.size, 0, none⟩) s7).trans p0
    have k1 := (b8.cell (p := ⟨w.heap.size, 1, none⟩) s7).trans p1
    have k2 := (b8.cell (p := ⟨w.heap.size, 2, none⟩) s7).trans p2
    have B8 : Hid (Below w.heap.size w w8) := B7.out.trans (b8.mono B7.out.size)
    have H8 := Lib.hid (H7.out.below b8)
    clear b8 B7 H7 V p0 p1 p2 p3
    go_wp2_with fail
    go_ret2
    exact ⟨ret_pr R.out rfl rfl, B8.out⟩
end Go.Proofs.Ytkpmmojfnhfflaa
