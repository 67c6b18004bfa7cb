/-
  Both SamePattern of trips: what each call answers; nothing that existed before the call has changed behind it. Condition: lists of fewer than 2^63 calls.
-/
import Derived.Test.YtfbobfejnbhjbaaDoorTrSt
namespace Go.Proofs.YtfbobfejnbhjbaaDoor
open Go.RowKit

theorem bool_ne {a b : Bool} (h : a ≠ b) : (a = true ∧ b = false) ∨ (a = false ∧ b = true) := by cases a <;> cases b <;> simp at h ⊢
set_option maxRecDepth 100000 in
set_option maxHeartbeats 8000000 in
theorem ksame_any (s : ByteArray) (r c : Int) (f : Bool) (v : Value) (l : List Cl) (s' : ByteArray) (r' c' : Int) (f' : Bool) (v' : Value) (l' : List Cl) (hl : l.length ≤ 9223372036854775807) (w : World) (h : LstC w v l) (h' : LstC w v' l') :
    Calls Tryd.prog 20 #[.agg #[.string s, .int .i64 r, .int .i64 c, .bool f, v], .agg #[.string s', .int .i64 r', .int .i64 c', .bool f', v']] w fun e w' => e = .returned (.bool (sameP l l')) ∧ Below w.heap.size w w' := by
  obtain ⟨w7, hw7, z7, ra, rb, b7⟩ := box_both w (boxT s r c f v) (boxT s' r' c' f' v')
  obtain ⟨-, -, -, -, p4⟩ := row_tp ra
  obtain ⟨-, -, -, -, q4⟩ := row_tp rb
  have B7 := Lib.hid b7
  have H := Lib.hid (h.below b7)
  have H' := Lib.hid (h'.below b7)
  obtain ⟨A, n, rfl, -, -, -⟩ := h
  obtain ⟨A', n', rfl, -, -, -⟩ := h'
  clear b7 ra rb
  by_cases hn : l.length ≠ l'.length
  · have t := bne_true (a := (l.length : Int)) (b := (l'.length : Int)) (by omega)
    have R := Lib.hid (same_len hn)
    clear hn z7
    go_enter Tryd.func20, Tryd.ntmps20
    go_wp2_with fail
    go_ret
    exact ⟨ret_bool R.out.symm, B7.out⟩
  have hn2 : l'.length = l.length := by omega
  have HN := Lib.hid hn2
  rw [hn2] at q4
  have t := neq_false (a := (l.length : Int)) (b := (l.length : Int)) rfl
  have Z7 := Lib.hid z7
  obtain ⟨R, hR⟩ : ∃ R, sameP l l' = R := ⟨_, rfl⟩
  have HR := Lib.hid hR
  rw [hR]
  clear hn hn2 z7 hR
  go_enter Tryd.func20, Tryd.ntmps20
  rw [show (Value.slice A' l'.length n') = .slice A' l.length n' by rw [HN.out]] at hw7 ⊢
  go_wp2_with fail
  clear hw7
  go_loopw [18] (fun i wr => ∃ k : Nat, i = .int .i64 k ∧ k ≤ l.length ∧ Hid (patV (l.take k) = patV (l'.take k)) ∧ Hid (Below w7.heap.size w7 wr)) (fun i _ => l.length - (intOf i).toNat)
  case atStart => exact ⟨0, rfl, Nat.zero_le _, Lib.hid rfl, Lib.hid (Below.refl _ _)⟩
  case round =>
    clear t
    obtain ⟨k, rfl, hk, HP, HB⟩ := hrel
    have BW : Hid (Below w.heap.size w wr) := B7.out.trans (HB.out.mono B7.out.size)
    by_cases hlt : k < l.length
    · obtain ⟨⟨x, xa, xd, xo, xu⟩, hx⟩ := at_lt hlt
      obtain ⟨⟨y, ya, yd, yo, yu⟩, hy⟩ := at_lt (show k < l'.length by rw [HN.out]; exact hlt)
      obtain ⟨b, g, rfl, -, r0, r1, r2, r3, r4⟩ := five_at (H.out.below HB.out) hx
      obtain ⟨b', g', rfl, -, m0, m1, m2, m3, m4⟩ := five_at (H'.out.below HB.out) hy
      have p5 := (HB.out.cell (p := ⟨w.heap.size, 4, none⟩) (by rw [Z7.out]; simp)).trans p4
      have q5 := (HB.out.cell (p := ⟨w.heap.size + 1, 4, none⟩) (by rw [Z7.out]; simp)).trans q4
      have gk : (k : Int) < (l.length : Int) := by omega
      have HX := Lib.hid hx
      have HY := Lib.hid hy
      clear hx hy p4 q4
      go_wp2_with fail
      go_region_held3 (fun W => W.cell? ⟨w.heap.size, 4, none⟩ = some (.slice (some ⟨b, g, none⟩) l.length n) ∧ W.cell? ⟨w.heap.size + 1, 4, none⟩ = some (.slice (some ⟨b', g', none⟩) l.length n') ∧ W.cell? ⟨b, g + k * 5, none⟩ = some (.int .i64 x) ∧ W.cell? ⟨b, g + k * 5 + 1, none⟩ = some (.int .i64 xa) ∧ W.cell? ⟨b, g + k * 5 + 2, none⟩ = some (.int .i64 xd) ∧ W.cell? ⟨b, g + k * 5 + 3, none⟩ = some (.bool xo) ∧ W.cell? ⟨b, g + k * 5 + 4, none⟩ = some (.bool xu) ∧ W.cell? ⟨b', g' + k * 5, none⟩ = some (.int .i64 y) ∧ W.cell? ⟨b', g' + k * 5 + 1, none⟩ = some (.int .i64 ya) ∧ W.cell? ⟨b', g' + k * 5 + 2, none⟩ = some (.int .i64 yd) ∧ W.cell? ⟨b', g' + k * 5 + 3, none⟩ = some (.bool yo) ∧ W.cell? ⟨b', g' + k * 5 + 4, none⟩ = some (.bool yu)) (go_keep) (first | fail)
      · obtain ⟨w9, hw9, z9, rx, ry, b9⟩ := box_both wr (boxC x xa xd xo xu) (boxC y ya yd yo yu)
        rw [hw9]
        have B9 : Hid (Below w7.heap.size w7 w9.drew) := HB.out.trans (b9.drew.mono HB.out.size)
        have W9 : Hid (Below w.heap.size w w9.drew) := BW.out.trans (b9.drew.mono BW.out.size)
        obtain ⟨u0, -, -, u3, u4⟩ := row_cc (w := w9.drew) rx
        obtain ⟨v0, -, -, v3, v4⟩ := row_cc (w := w9.drew) ry
        clear hw9 z9 rx ry b9 p5 q5 r0 r1 r2 r3 r4 m0 m1 m2 m3 m4 HB BW
        generalize w9.drew = w8 at *
        by_cases e0 : x = y
        · have d0 := neq_false e0
          by_cases e3 : xo = yo
          · subst e3
            by_cases e4 : xu = yu
            · subst e4
              have N := Lib.hid (same_next HP.out HX.out HY.out (by subst e0; rfl))
              clear e0 HP HX HY
              go_wp2_with fail
              go_roundw
              case rel => exact ⟨k + 1, by go_num, by omega, N, B9⟩
              case measure => simp [intOf]; omega
            · have N := Lib.hid (same_stop HX.out HY.out (fun e5 => e4 (congrArg (fun z : Vs => z.2.2) e5)))
              clear e0 HP HX HY
              rcases bool_ne e4 with ⟨rfl, rfl⟩ | ⟨rfl, rfl⟩
              all_goals
                clear e4
                go_wp2_with fail
                go_ret
                exact ⟨ret_bool (N.out.symm.trans HR.out), W9.out⟩
          · have N := Lib.hid (same_stop HX.out HY.out (fun e5 => e3 (congrArg (fun z : Vs => z.2.1) e5)))
            clear e0 HP HX HY
            rcases bool_ne e3 with ⟨rfl, rfl⟩ | ⟨rfl, rfl⟩
            all_goals
              clear e3
              go_wp2_with fail
              go_ret
              exact ⟨ret_bool (N.out.symm.trans HR.out), W9.out⟩
        · have d0 := bne_true e0
          have N := Lib.hid (same_stop HX.out HY.out (fun e5 => e0 (congrArg (fun z : Vs => z.1) e5)))
          clear e0 HP HX HY
          go_wp2_with fail
          go_ret
          exact ⟨ret_bool (N.out.symm.trans HR.out), W9.out⟩
      · obtain ⟨w9, hw9, z9, ry, rx, b9⟩ := box_both wr (boxC y ya yd yo yu) (boxC x xa xd xo xu)
        rw [hw9]
        have B9 : Hid (Below w7.heap.size w7 w9.drew) := HB.out.trans (b9.drew.mono HB.out.size)
        have W9 : Hid (Below w.heap.size w w9.drew) := BW.out.trans (b9.drew.mono BW.out.size)
        obtain ⟨u0, -, -, u3, u4⟩ := row_cc (w := w9.drew) rx
        obtain ⟨v0, -, -, v3, v4⟩ := row_cc (w := w9.drew) ry
        clear hw9 z9 rx ry b9 p5 q5 r0 r1 r2 r3 r4 m0 m1 m2 m3 m4 HB BW
        generalize w9.drew = w8 at *
        by_cases e0 : x = y
        · have d0 := neq_false e0
          by_cases e3 : xo = yo
          · subst e3
            by_cases e4 : xu = yu
            · subst e4
              have N := Lib.hid (same_next HP.out HX.out HY.out (by subst e0; rfl))
              clear e0 HP HX HY
              go_wp2_with fail
              go_roundw
              case rel => exact ⟨k + 1, by go_num, by omega, N, B9⟩
              case measure => simp [intOf]; omega
            · have N := Lib.hid (same_stop HX.out HY.out (fun e5 => e4 (congrArg (fun z : Vs => z.2.2) e5)))
              clear e0 HP HX HY
              rcases bool_ne e4 with ⟨rfl, rfl⟩ | ⟨rfl, rfl⟩
              all_goals
                clear e4
                go_wp2_with fail
                go_ret
                exact ⟨ret_bool (N.out.symm.trans HR.out), W9.out⟩
          · have N := Lib.hid (same_stop HX.out HY.out (fun e5 => e3 (congrArg (fun z : Vs => z.2.1) e5)))
            clear e0 HP HX HY
            rcases bool_ne e3 with ⟨rfl, rfl⟩ | ⟨rfl, rfl⟩
            all_goals
              clear e3
              go_wp2_with fail
              go_ret
              exact ⟨ret_bool (N.out.symm.trans HR.out), W9.out⟩
        · have d0 := bne_true e0
          have N := Lib.hid (same_stop HX.out HY.out (fun e5 => e0 (congrArg (fun z : Vs => z.1) e5)))
          clear e0 HP HX HY
          go_wp2_with fail
          go_ret
          exact ⟨ret_bool (N.out.symm.trans HR.out), W9.out⟩
    · have d : decide (k < l.length) = false := by rw [decide_eq_false_iff_not]; exact hlt
      have E := Lib.hid (same_done HP.out (show l.length ≤ k by omega) (by rw [HN.out]; omega))
      have p5 := (HB.out.cell (p := ⟨w.heap.size, 4, none⟩) (by rw [Z7.out]; simp)).trans p4
      clear hlt HP p4 q4
      go_wp2_with fail
      go_ret
      exact ⟨ret_bool (E.out.symm.trans HR.out), BW.out⟩
set_option maxRecDepth 100000 in
set_option maxHeartbeats 8000000 in
theorem rsame_any (s : ByteArray) (r c : Int) (f : Bool) (v : Value) (l : List Cl) (s' : ByteArray) (r' c' : Int) (f' : Bool) (v' : Value) (l' : List Cl) (hl : l.length ≤ 9223372036854775807) (w : World) (h : LstC w v l) (h' : LstC w v' l') :
    Calls Tryd.prog 21 #[.agg #[.string s, .int .i64 r, .int .i64 c, .bool f, v], .agg #[.string s', .int .i64 r', .int .i64 c', .bool f', v']] w fun e w' => e = .returned (.bool (sameP l l')) ∧ Below w.heap.size w w' := by
  obtain ⟨w7, hw7, z7, ra, rb, b7⟩ := box_both w (boxT s r c f v) (boxT s' r' c' f' v')
  obtain ⟨-, -, -, -, p4⟩ := row_tp ra
  obtain ⟨-, -, -, -, q4⟩ := row_tp rb
  have B7 := Lib.hid b7
  have H := Lib.hid (h.below b7)
  have H' := Lib.hid (h'.below b7)
  obtain ⟨A, n, rfl, -, -, -⟩ := h
  obtain ⟨A', n', rfl, -, -, -⟩ := h'
  clear b7 ra rb
  by_cases hn : l.length ≠ l'.length
  · have t := bne_true (a := (l.length : Int)) (b := (l'.length : Int)) (by omega)
    have R := Lib.hid (same_len hn)
    clear hn z7
    go_enter Tryd.func21, Tryd.ntmps21
    go_wp2_with fail
    go_ret
    exact ⟨ret_bool R.out.symm, B7.out⟩
  have hn2 : l'.length = l.length := by omega
  have HN := Lib.hid hn2
  rw [hn2] at q4
  have t := neq_false (a := (l.length : Int)) (b := (l.length : Int)) rfl
  have Z7 := Lib.hid z7
  obtain ⟨R, hR⟩ : ∃ R, sameP l l' = R := ⟨_, rfl⟩
  have HR := Lib.hid hR
  rw [hR]
  clear hn hn2 z7 hR
  go_enter Tryd.func21, Tryd.ntmps21
  rw [show (Value.slice A' l'.length n') = .slice A' l.length n' by rw [HN.out]] at hw7 ⊢
  go_wp2_with fail
  clear hw7
  go_loopw [5] (fun i wr => ∃ k : Nat, i = .int .i64 k ∧ k ≤ l.length ∧ Hid (patV (l.take k) = patV (l'.take k)) ∧ Hid (Below w7.heap.size w7 wr)) (fun i _ => l.length - (intOf i).toNat)
  case atStart => exact ⟨0, rfl, Nat.zero_le _, Lib.hid rfl, Lib.hid (Below.refl _ _)⟩
  case round =>
    clear t
    obtain ⟨k, rfl, hk, HP, HB⟩ := hrel
    have BW : Hid (Below w.heap.size w wr) := B7.out.trans (HB.out.mono B7.out.size)
    by_cases hlt : k < l.length
    · obtain ⟨⟨x, xa, xd, xo, xu⟩, hx⟩ := at_lt hlt
      obtain ⟨⟨y, ya, yd, yo, yu⟩, hy⟩ := at_lt (show k < l'.length by rw [HN.out]; exact hlt)
      obtain ⟨b, g, rfl, -, r0, r1, r2, r3, r4⟩ := five_at (H.out.below HB.out) hx
      obtain ⟨b', g', rfl, -, m0, m1, m2, m3, m4⟩ := five_at (H'.out.below HB.out) hy
      have p5 := (HB.out.cell (p := ⟨w.heap.size, 4, none⟩) (by rw [Z7.out]; simp)).trans p4
      have q5 := (HB.out.cell (p := ⟨w.heap.size + 1, 4, none⟩) (by rw [Z7.out]; simp)).trans q4
      have gk : (k : Int) < (l.length : Int) := by omega
      have HX := Lib.hid hx
      have HY := Lib.hid hy
      clear hx hy p4 q4
      go_wp2_with fail
      go_region_held3 (fun W => W.cell? ⟨w.heap.size, 4, none⟩ = some (.slice (some ⟨b, g, none⟩) l.length n) ∧ W.cell? ⟨w.heap.size + 1, 4, none⟩ = some (.slice (some ⟨b', g', none⟩) l.length n') ∧ W.cell? ⟨b, g + k * 5, none⟩ = some (.int .i64 x) ∧ W.cell? ⟨b, g + k * 5 + 1, none⟩ = some (.int .i64 xa) ∧ W.cell? ⟨b, g + k * 5 + 2, none⟩ = some (.int .i64 xd) ∧ W.cell? ⟨b, g + k * 5 + 3, none⟩ = some (.bool xo) ∧ W.cell? ⟨b, g + k * 5 + 4, none⟩ = some (.bool xu) ∧ W.cell? ⟨b', g' + k * 5, none⟩ = some (.int .i64 y) ∧ W.cell? ⟨b', g' + k * 5 + 1, none⟩ = some (.int .i64 ya) ∧ W.cell? ⟨b', g' + k * 5 + 2, none⟩ = some (.int .i64 yd) ∧ W.cell? ⟨b', g' + k * 5 + 3, none⟩ = some (.bool yo) ∧ W.cell? ⟨b', g' + k * 5 + 4, none⟩ = some (.bool yu)) (go_keep) (first | fail)
      · obtain ⟨w9, hw9, z9, rx, ry, b9⟩ := box_both wr (boxC x xa xd xo xu) (boxC y ya yd yo yu)
        rw [hw9]
        have B9 : Hid (Below w7.heap.size w7 w9.drew) := HB.out.trans (b9.drew.mono HB.out.size)
        have W9 : Hid (Below w.heap.size w w9.drew) := BW.out.trans (b9.drew.mono BW.out.size)
        obtain ⟨u0, -, -, u3, u4⟩ := row_cc (w := w9.drew) rx
        obtain ⟨v0, -, -, v3, v4⟩ := row_cc (w := w9.drew) ry
        clear hw9 z9 rx ry b9 p5 q5 r0 r1 r2 r3 r4 m0 m1 m2 m3 m4 HB BW
        generalize w9.drew = w8 at *
        by_cases e0 : x = y
        · have d0 := neq_false e0
          by_cases e3 : xo = yo
          · subst e3
            by_cases e4 : xu = yu
            · subst e4
              have N := Lib.hid (same_next HP.out HX.out HY.out (by subst e0; rfl))
              clear e0 HP HX HY
              go_wp2_with fail
              go_roundw
              case rel => exact ⟨k + 1, by go_num, by omega, N, B9⟩
              case measure => simp [intOf]; omega
            · have N := Lib.hid (same_stop HX.out HY.out (fun e5 => e4 (congrArg (fun z : Vs => z.2.2) e5)))
              clear e0 HP HX HY
              rcases bool_ne e4 with ⟨rfl, rfl⟩ | ⟨rfl, rfl⟩
              all_goals
                clear e4
                go_wp2_with fail
                go_ret
                exact ⟨ret_bool (N.out.symm.trans HR.out), W9.out⟩
          · have N := Lib.hid (same_stop HX.out HY.out (fun e5 => e3 (congrArg (fun z : Vs => z.2.1) e5)))
            clear e0 HP HX HY
            rcases bool_ne e3 with ⟨rfl, rfl⟩ | ⟨rfl, rfl⟩
            all_goals
              clear e3
              go_wp2_with fail
              go_ret
              exact ⟨ret_bool (N.out.symm.trans HR.out), W9.out⟩
        · have d0 := bne_true e0
          have N := Lib.hid (same_stop HX.out HY.out (fun e5 => e0 (congrArg (fun z : Vs => z.1) e5)))
          clear e0 HP HX HY
          go_wp2_with fail
          go_ret
          exact ⟨ret_bool (N.out.symm.trans HR.out), W9.out⟩
      · obtain ⟨w9, hw9, z9, ry, rx, b9⟩ := box_both wr (boxC y ya yd yo yu) (boxC x xa xd xo xu)
        rw [hw9]
        have B9 : Hid (Below w7.heap.size w7 w9.drew) := HB.out.trans (b9.drew.mono HB.out.size)
        have W9 : Hid (Below w.heap.size w w9.drew) := BW.out.trans (b9.drew.mono BW.out.size)
        obtain ⟨u0, -, -, u3, u4⟩ := row_cc (w := w9.drew) rx
        obtain ⟨v0, -, -, v3, v4⟩ := row_cc (w := w9.drew) ry
        clear hw9 z9 rx ry b9 p5 q5 r0 r1 r2 r3 r4 m0 m1 m2 m3 m4 HB BW
        generalize w9.drew = w8 at *
        by_cases e0 : x = y
        · have d0 := neq_false e0
          by_cases e3 : xo = yo
          · subst e3
            by_cases e4 : xu = yu
            · subst e4
              have N := Lib.hid (same_next HP.out HX.out HY.out (by subst e0; rfl))
              clear e0 HP HX HY
              go_wp2_with fail
              go_roundw
              case rel => exact ⟨k + 1, by go_num, by omega, N, B9⟩
              case measure => simp [intOf]; omega
            · have N := Lib.hid (same_stop HX.out HY.out (fun e5 => e4 (congrArg (fun z : Vs => z.2.2) e5)))
              clear e0 HP HX HY
              rcases bool_ne e4 with ⟨rfl, rfl⟩ | ⟨rfl, rfl⟩
              all_goals
                clear e4
                go_wp2_with fail
                go_ret
                exact ⟨ret_bool (N.out.symm.trans HR.out), W9.out⟩
          · have N := Lib.hid (same_stop HX.out HY.out (fun e5 => e3 (congrArg (fun z : Vs => z.2.1) e5)))
            clear e0 HP HX HY
            rcases bool_ne e3 with ⟨rfl, rfl⟩ | ⟨rfl, rfl⟩
            all_goals
              clear e3
              go_wp2_with fail
              go_ret
              exact ⟨ret_bool (N.out.symm.trans HR.out), W9.out⟩
        · have d0 := bne_true e0
          have N := Lib.hid (same_stop HX.out HY.out (fun e5 => e0 (congrArg (fun z : Vs => z.1) e5)))
          clear e0 HP HX HY
          go_wp2_with fail
          go_ret
          exact ⟨ret_bool (N.out.symm.trans HR.out), W9.out⟩
    · have d : decide (k < l.length) = false := by rw [decide_eq_false_iff_not]; exact hlt
      have E := Lib.hid (same_done HP.out (show l.length ≤ k by omega) (by rw [HN.out]; omega))
      have p5 := (HB.out.cell (p := ⟨w.heap.size, 4, none⟩) (by rw [Z7.out]; simp)).trans p4
      clear hlt HP p4 q4
      go_wp2_with fail
      go_ret
      exact ⟨ret_bool (E.out.symm.trans HR.out), BW.out⟩
end Go.Proofs.YtfbobfejnbhjbaaDoor
