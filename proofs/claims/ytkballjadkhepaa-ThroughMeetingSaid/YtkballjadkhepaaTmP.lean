/-
  What through services and guaranteed changes have in common: pairErrors of package through, the closure that it hands back, checkPassage: what each call answers; nothing that existed before the call has changed behind it. Condition: at most 1000 frequencies, lists of at most 1000000 calls.
-/
import Derived.Test.YtkballjadkhepaaTmS
namespace Go.Proofs.Ytkballjadkhepaa
open Go.RowKit

/-- The closure that pairErrors hands back: over the boxes of its two arguments. -/
abbrev prFn (k : Nat) : Value := .func (.func 33) #[] #[.pointer (some ⟨k, 0, none⟩), .pointer (some ⟨k + 1, 0, none⟩)]
set_option maxHeartbeats 1000000 in
theorem kpes_any (A B : Option Addr) (n c m d : Nat) (w : World) : Calls Try.prog 25 #[.slice A n c, .slice B m d] w fun e w' => e = .returned (prFn w.heap.size) ∧ w'.cell? ⟨w.heap.size, 0, none⟩ = some (.slice A n c) ∧ w'.cell? ⟨w.heap.size + 1, 0, none⟩ = some (.slice B m d) ∧ Below w.heap.size w w' ∧ w.heap.size + 1 < w'.heap.size := by
  obtain ⟨w7, hw7, z7, ra, rb, b7⟩ := box_both w (.cells #[.slice A n c] 24 (0, 0)) (.cells #[.slice B m d] 25 (0, 0))
  have RA := Lib.hid ra
  have RB := Lib.hid rb
  have B7 := Lib.hid b7
  have Z7 := Lib.hid z7
  clear ra rb b7 z7
  go_enter Try.func25, Try.ntmps25
  go_wp2_with fail
  go_ret
  exact ⟨rfl, by rw [cell_of_row _ _ 0 _ _ _ RA.out]; rfl, by rw [cell_of_row _ _ 0 _ _ _ RB.out]; rfl, B7.out, by rw [Z7.out]; omega⟩
theorem prE_enter : ∀ args W, (callFunc 33 args).run Try.prog W = .ok (.enter 33 args) W := enter_of Try.func33 (by kernel_rfl) (by kernel_rfl)
set_option maxRecDepth 100000 in
set_option maxHeartbeats 1000000 in
theorem kpr_any (k : Nat) (vt vf : Value) (ts : List Tp) (f : List Fq) (hf : f.length ≤ 1000) (a b : Int) (w : World) (m0 : w.cell? ⟨k, 0, none⟩ = some vt) (m1 : w.cell? ⟨k + 1, 0, none⟩ = some vf) (ht : LstTp w vt ts) (hq : LstF w vf f) : Calls Try.prog 33 #[.int .i64 a, .int .i64 b, .pointer (some ⟨k, 0, none⟩), .pointer (some ⟨k + 1, 0, none⟩)] w fun e w' => e = .returned (.int .i64 (prE ts.length f a b)) ∧ Below w.heap.size w w' := by
  have F1 := Lib.hid (krep_any vf f hf a w hq)
  have HQ := Lib.hid hq
  have M1 := Lib.hid m1
  obtain ⟨⟨A, n, rfl, -, -, -⟩, -⟩ := ht
  obtain ⟨B, m, rfl, -, -, -⟩ := id hq
  clear hq
  by_cases h1 : ¬ (0 ≤ a ∧ a < (ts.length : Int))
  · have R := Lib.hid (pr_a (f := f) (b := b) h1).symm
    have X := Lib.hid (fun W => kisx_no a (ts.length : Int) h1 W)
    clear h1 F1
    go_enter Try.func33, Try.ntmps33
    go_wp2_with fail
    refine (X.out _).mono ?_
    rintro e w' ⟨rfl, rfl⟩
    go_wp2_with fail
    go_ret
    exact ⟨ret_int R.out, Below.refl _ _⟩
  have h1 := Decidable.not_not.1 h1
  have X := Lib.hid (fun W => kisx_yes a (ts.length : Int) h1 W)
  by_cases h2 : ¬ (0 ≤ b ∧ b < (ts.length : Int))
  · have R := Lib.hid (pr_b (f := f) (a := a) h2).symm
    have Y := Lib.hid (fun W => kisx_no b (ts.length : Int) h2 W)
    clear h1 h2 F1
    go_enter Try.func33, Try.ntmps33
    go_wp2_with fail
    refine (X.out _).mono ?_
    rintro e w' ⟨rfl, rfl⟩
    go_wp2_with fail
    refine (Y.out _).mono ?_
    rintro e w' ⟨rfl, rfl⟩
    go_wp2_with fail
    go_ret
    exact ⟨ret_int R.out, Below.refl _ _⟩
  have h2 := Decidable.not_not.1 h2
  have Y := Lib.hid (fun W => kisx_yes b (ts.length : Int) h2 W)
  by_cases h3 : a = b
  · have R := Lib.hid (pr_ab (n := ts.length) (f := f) h3).symm
    have g := beq_true h3
    clear h1 h2 h3 F1
    go_enter Try.func33, Try.ntmps33
    go_wp2_with fail
    refine (X.out _).mono ?_
    rintro e w' ⟨rfl, rfl⟩
    go_wp2_with fail
    refine (Y.out _).mono ?_
    rintro e w' ⟨rfl, rfl⟩
    go_wp2_with fail
    go_ret
    exact ⟨ret_int R.out, Below.refl _ _⟩
  have g := beq_false h3
  cases h4 : repF a f with
  | true =>
    rw [h4] at F1
    have R := Lib.hid (pr_fa h1 h2 h3 h4).symm
    clear h1 h2 h3 h4
    go_enter Try.func33, Try.ntmps33
    go_wp2_with fail
    refine (X.out _).mono ?_
    rintro e w' ⟨rfl, rfl⟩
    go_wp2_with fail
    refine (Y.out _).mono ?_
    rintro e w' ⟨rfl, rfl⟩
    go_wp2_with fail
    refine F1.out.mono ?_
    rintro e w1 ⟨rfl, b1⟩
    go_wp2_with fail
    go_ret
    exact ⟨ret_int R.out, b1⟩
  | false =>
    rw [h4] at F1
    have F2 := Lib.hid (fun W (hW : Below w.heap.size w W) => krep_any (.slice B f.length m) f hf b W (HQ.out.below hW))
    cases h5 : repF b f with
    | true =>
      rw [h5] at F2
      have R := Lib.hid (pr_fb h1 h2 h3 h5).symm
      clear h1 h2 h3 h4 h5
      go_enter Try.func33, Try.ntmps33
      go_wp2_with fail
      refine (X.out _).mono ?_
      rintro e w' ⟨rfl, rfl⟩
      go_wp2_with fail
      refine (Y.out _).mono ?_
      rintro e w' ⟨rfl, rfl⟩
      go_wp2_with fail
      refine F1.out.mono ?_
      rintro e w1 ⟨rfl, b1⟩
      have K2 := Lib.hid (F2.out w1 b1)
      have m1 := (b1.cell (p := ⟨k + 1, 0, none⟩) (World.block_lt_of_cell? _ _ M1.out)).trans M1.out
      have B1 := Lib.hid b1
      clear F1 F2 b1
      go_wp2_with fail
      refine K2.out.mono ?_
      rintro e w2 ⟨rfl, b2⟩
      have B2 : Hid (Below w.heap.size w w2) := B1.out.trans (b2.mono B1.out.size)
      clear K2 b2
      go_wp2_with fail
      go_ret
      exact ⟨ret_int R.out, B2.out⟩
    | false =>
      rw [h5] at F2
      have R := Lib.hid (pr_ok h1 h2 h3 h4 h5).symm
      clear h1 h2 h3 h4 h5
      go_enter Try.func33, Try.ntmps33
      go_wp2_with fail
      refine (X.out _).mono ?_
      rintro e w' ⟨rfl, rfl⟩
      go_wp2_with fail
      refine (Y.out _).mono ?_
      rintro e w' ⟨rfl, rfl⟩
      go_wp2_with fail
      refine F1.out.mono ?_
      rintro e w1 ⟨rfl, b1⟩
      have K2 := Lib.hid (F2.out w1 b1)
      have m1 := (b1.cell (p := ⟨k + 1, 0, none⟩) (World.block_lt_of_cell? _ _ M1.out)).trans M1.out
      have B1 := Lib.hid b1
      clear F1 F2 b1
      go_wp2_with fail
      refine K2.out.mono ?_
      rintro e w2 ⟨rfl, b2⟩
      have B2 : Hid (Below w.heap.size w w2) := B1.out.trans (b2.mono B1.out.size)
      clear K2 b2
      go_wp2_with fail
      go_ret
      exact ⟨ret_int R.out, B2.out⟩
set_option maxRecDepth 100000 in
set_option maxHeartbeats 1000000 in
theorem kpass_any (s : ByteArray) (r c : Int) (f : Bool) (v : Value) (l : List Cl) (s' : ByteArray) (r' c' : Int) (f' : Bool) (v' : Value) (l' : List Cl) (hl : l.length ≤ 1000000) (w : World) (h : LstC w v l) (h' : LstC w v' l') :
    Calls Try.prog 26 #[.agg #[.string s, .int .i64 r, .int .i64 c, .bool f, v], .agg #[.string s', .int .i64 r', .int .i64 c', .bool f', v']] w fun e w' => e = .returned (.int .i64 (psE (c, l) (c', l'))) ∧ Below w.heap.size w w' := by
  obtain ⟨w7, hw7, z7, ra, rb, b7⟩ := box_both w (boxT s r c f v) (boxT s' r' c' f' v')
  obtain ⟨-, -, p2, -, p4⟩ := row_tp ra
  obtain ⟨-, -, q2, -, q4⟩ := row_tp rb
  have B7 := Lib.hid b7
  have H := Lib.hid (h.below b7)
  have H' := Lib.hid (h'.below b7)
  obtain ⟨A, n, rfl, -, -, -⟩ := h
  obtain ⟨A', n', rfl, -, -, -⟩ := h'
  clear b7 ra rb z7
  by_cases hc : ¬ c = c'
  · have g := bne_true hc
    have R := Lib.hid (ps_cal (a := (c, l)) (b := (c', l')) hc).symm
    clear hc
    go_enter Try.func26, Try.ntmps26
    go_wp2_with fail
    go_ret
    exact ⟨ret_int R.out, B7.out⟩
  have hc : c = c' := Decidable.not_not.1 hc
  have g := neq_false hc
  by_cases h0 : l.length = 0
  · have g0 : ((l.length : Int) == 0) = true := beq_true (by omega)
    have g0' : (l.length == 0) = true := by rw [h0]; rfl
    have R := Lib.hid (ps_from (a := (c, l)) (b := (c', l')) hc h0).symm
    clear hc h0
    go_enter Try.func26, Try.ntmps26
    go_wp2_with fail
    go_ret
    exact ⟨ret_int R.out, B7.out⟩
  have g0 : ((l.length : Int) == 0) = false := beq_false (by omega)
  have g0' : (l.length == 0) = false := by rw [beq_eq_false_iff_ne]; exact h0
  by_cases h1 : l'.length = 0
  · have g1 : ((l'.length : Int) == 0) = true := beq_true (by omega)
    have g1' : (l'.length == 0) = true := by rw [h1]; rfl
    have R := Lib.hid (ps_to (a := (c, l)) (b := (c', l')) hc h1).symm
    clear hc h0 h1
    go_enter Try.func26, Try.ntmps26
    go_wp2_with fail
    go_ret
    exact ⟨ret_int R.out, B7.out⟩
  have g1 : ((l'.length : Int) == 0) = false := beq_false (by omega)
  have g1' : (l'.length == 0) = false := by rw [beq_eq_false_iff_ne]; exact h1
  obtain ⟨⟨y, ya, yd, yo, yu⟩, hy⟩ := at_lt (l := l') (k := 0) (by omega)
  obtain ⟨⟨x, xa, xd, xo, xu⟩, hx⟩ := at_lt (l := l) (k := l.length - 1) (by omega)
  have HX := Lib.hid hx
  have HY := Lib.hid hy
  obtain ⟨k, hk⟩ : ∃ k, l.length - 1 = k := ⟨_, rfl⟩
  rw [hk] at hx
  obtain ⟨b, o, rfl, -, m0, m1, m2, m3, m4⟩ := five_at H.out hx
  obtain ⟨b', o', rfl, -, t0, t1, t2, t3, t4⟩ := five_at H'.out hy
  rw [Nat.zero_mul, Nat.add_zero] at t0 t1 t2 t3 t4
  have e1 : (l.length : Int) - 1 = (k : Int) := by omega
  have kle : k ≤ 1000000 := by omega
  have kn : (k : Int) < (l.length : Int) := by omega
  have wk : IntKind.i64.wrap (k : Int) = (k : Int) := IntWalk.i64_in _ (by omega)
  have gn : (0 : Int) < (l'.length : Int) := by omega
  have gn' : 0 < l'.length := by omega
  have HC := Lib.hid hc
  clear hx hy hk h0 h1 hc
  go_enter Try.func26, Try.ntmps26
  go_wp2_with fail
  go_region_held3 (fun W => W.cell? ⟨w.heap.size, 4, none⟩ = some (.slice (some ⟨b, o, none⟩) l.length n) ∧ W.cell? ⟨w.heap.size + 1, 4, none⟩ = some (.slice (some ⟨b', o', none⟩) l'.length n') ∧ W.cell? ⟨b, o + k * 5, none⟩ = some (.int .i64 x) ∧ W.cell? ⟨b, o + k * 5 + 1, none⟩ = some (.int .i64 xa) ∧ W.cell? ⟨b, o + k * 5 + 2, none⟩ = some (.int .i64 xd) ∧ W.cell? ⟨b, o + k * 5 + 3, none⟩ = some (.bool xo) ∧ W.cell? ⟨b, o + k * 5 + 4, none⟩ = some (.bool xu) ∧ W.cell? ⟨b', o', none⟩ = some (.int .i64 y) ∧ W.cell? ⟨b', o' + 1, none⟩ = some (.int .i64 ya) ∧ W.cell? ⟨b', o' + 2, none⟩ = some (.int .i64 yd) ∧ W.cell? ⟨b', o' + 3, none⟩ = some (.bool yo) ∧ W.cell? ⟨b', o' + 4, none⟩ = some (.bool yu)) (go_keep) (first | fail)
  · obtain ⟨w9, hw9, z9, rx, ry, b9⟩ := box_both w7 (boxC x xa xd xo xu) (boxC y ya yd yo yu)
    rw [hw9]
    have B9 : Hid (Below w.heap.size w w9.drew) := B7.out.trans (b9.drew.mono B7.out.size)
    obtain ⟨u0, u1, -, -, -⟩ := row_cc (w := w9.drew) rx
    obtain ⟨v0, -, v2, -, -⟩ := row_cc (w := w9.drew) ry
    clear hw9 z9 rx ry b9 p2 p4 q2 q4 m0 m1 m2 m3 m4 t0 t1 t2 t3 t4 B7
    generalize w9.drew = w8 at *
    by_cases e0 : ¬ x = y
    · have d0 := bne_true e0
      have R := Lib.hid (ps_stop (a := (c, l)) (b := (c', l')) HC.out HX.out HY.out e0).symm
      clear e0 HX HY
      go_wp2_with fail
      go_ret
      exact ⟨ret_int R.out, B9.out⟩
    have e0 := Decidable.not_not.1 e0
    have d0 := neq_false e0
    by_cases e1 : yd < xa
    · have R := Lib.hid (ps_time (a := (c, l)) (b := (c', l')) HC.out HX.out HY.out e0 e1).symm
      clear e0 HX HY
      go_wp2_with fail
      go_ret
      exact ⟨ret_int R.out, B9.out⟩
    have d1 : decide (yd < xa) = false := decide_eq_false e1
    have R := Lib.hid (ps_ok (a := (c, l)) (b := (c', l')) HC.out HX.out HY.out e0 e1).symm
    clear e0 e1 HX HY
    go_wp2_with fail
    go_ret
    exact ⟨ret_int R.out, B9.out⟩
  · obtain ⟨w9, hw9, z9, ry, rx, b9⟩ := box_both w7 (boxC y ya yd yo yu) (boxC x xa xd xo xu)
    rw [hw9]
    have B9 : Hid (Below w.heap.size w w9.drew) := B7.out.trans (b9.drew.mono B7.out.size)
    obtain ⟨u0, u1, -, -, -⟩ := row_cc (w := w9.drew) rx
    obtain ⟨v0, -, v2, -, -⟩ := row_cc (w := w9.drew) ry
    clear hw9 z9 rx ry b9 p2 p4 q2 q4 m0 m1 m2 m3 m4 t0 t1 t2 t3 t4 B7
    generalize w9.drew = w8 at *
    by_cases e0 : ¬ x = y
    · have d0 := bne_true e0
      have R := Lib.hid (ps_stop (a := (c, l)) (b := (c', l')) HC.out HX.out HY.out e0).symm
      clear e0 HX HY
      go_wp2_with fail
      go_ret
      exact ⟨ret_int R.out, B9.out⟩
    have e0 := Decidable.not_not.1 e0
    have d0 := neq_false e0
    by_cases e1 : yd < xa
    · have R := Lib.hid (ps_time (a := (c, l)) (b := (c', l')) HC.out HX.out HY.out e0 e1).symm
      clear e0 HX HY
      go_wp2_with fail
      go_ret
      exact ⟨ret_int R.out, B9.out⟩
    have d1 : decide (yd < xa) = false := decide_eq_false e1
    have R := Lib.hid (ps_ok (a := (c, l)) (b := (c', l')) HC.out HX.out HY.out e0 e1).symm
    clear e0 e1 HX HY
    go_wp2_with fail
    go_ret
    exact ⟨ret_int R.out, B9.out⟩
end Go.Proofs.Ytkballjadkhepaa
