/-
  The code's Overtakes, the reference's event and Overtakes: what each call answers; nothing that existed before the call has changed behind it. Condition: lists of at most 2^35 calls.
-/
import Derived.Test.YtfbobfejnbhjbaaDoorTrSam
import Derived.Test.YtfbobfejnbhjbaaDoorTrTxt
namespace Go.Proofs.YtfbobfejnbhjbaaDoor
open Go.RowKit

set_option maxRecDepth 100000 in
set_option maxHeartbeats 4000000 in
theorem ev_any (s : ByteArray) (r c : Int) (f : Bool) (v : Value) (l : List Cl) (hl : l.length ≤ 34359738368) (i : Nat) (y : Int) (hy : (evC l)[i]? = some y) (w : World) (h : LstC w v l) :
    Calls Tryd.prog 37 #[.agg #[.string s, .int .i64 r, .int .i64 c, .bool f, v], .int .i64 (i : Int)] w fun e w' => e = .returned (.int .i64 y) ∧ Below w.heap.size w w' := by
  obtain ⟨w7, hw7⟩ : ∃ W, w.alloc (.cells #[.string s, .int .i64 r, .int .i64 c, .bool f, v] 39 (0, 0)) = W := ⟨_, rfl⟩
  obtain ⟨b7, -, -, -, -, p4, s7⟩ := box_tp hw7
  have B7 := Lib.hid b7
  have H := h.below b7
  obtain ⟨A, n, rfl, -, -, -⟩ := h
  have hi := (List.getElem?_eq_some_iff.1 hy).1
  rw [evC_len] at hi
  obtain ⟨⟨x, xa, xd, xo, xu⟩, hx⟩ := at_lt (show i / 2 < l.length by omega)
  obtain ⟨b, g, rfl, -, -, r1, r2, -, -⟩ := five_at H hx
  have E1 : ((i : Nat) : Int).tdiv 2 = ((i / 2 : Nat) : Int) := by
    rw [Int.tdiv_eq_ediv_of_nonneg (by omega)]
    omega
  have gd : ((i / 2 : Nat) : Int) < (l.length : Int) := by omega
  have gn : i / 2 < l.length := by omega
  have hi0 : (0 : Int) ≤ (i : Int) := by omega
  have hi1 : (i : Int) ≤ 9223372036854775807 := by omega
  rcases Nat.mod_two_eq_zero_or_one i with hm | hm
  · have E2 : ((i : Nat) : Int).tmod 2 = 0 := by
      rw [Int.tmod_eq_emod_of_nonneg (by omega)]
      omega
    have e : xa = y := by
      have := ev_even hx hm
      rw [hy] at this
      exact (Option.some.inj this).symm
    subst e
    clear hm hx hy b7 H hi
    go_enter Tryd.func37, Tryd.ntmps37
    go_wp2_with fail
    go_ret
    exact ⟨rfl, B7.out⟩
  · have E2 : ((i : Nat) : Int).tmod 2 = 1 := by
      rw [Int.tmod_eq_emod_of_nonneg (by omega)]
      omega
    have e : xd = y := by
      have := ev_odd hx hm
      rw [hy] at this
      exact (Option.some.inj this).symm
    subst e
    clear hm hx hy b7 H hi
    go_enter Tryd.func37, Tryd.ntmps37
    go_wp2_with fail
    go_ret
    exact ⟨rfl, B7.out⟩
theorem lat_yes {x y : Int} (h : y < x) : latE (x, y) = true := decide_eq_true h
theorem lat_no {x y : Int} (h : ¬ y < x) : latE (x, y) = false := decide_eq_false h
theorem ear_yes {x y : Int} (h : x < y) : earE (x, y) = true := decide_eq_true h
theorem ear_no {x y : Int} (h : ¬ x < y) : earE (x, y) = false := decide_eq_false h
set_option maxRecDepth 100000 in
set_option maxHeartbeats 8000000 in
theorem kover_any (s : ByteArray) (r c : Int) (f : Bool) (v : Value) (l : List Cl) (s' : ByteArray) (r' c' : Int) (f' : Bool) (v' : Value) (l' : List Cl) (hl : l.length ≤ 34359738368) (hl' : l'.length ≤ 34359738368) (w : World) (h : LstC w v l) (h' : LstC w v' l') :
    Calls Tryd.prog 25 #[.agg #[.string s, .int .i64 r, .int .i64 c, .bool f, v], .agg #[.string s', .int .i64 r', .int .i64 c', .bool f', v']] w fun e w' => e = .returned (.bool (ovT l l')) ∧ Below w.heap.size w w' := by
  obtain ⟨w7, hw7, z7, ra, rb, b7⟩ := box_both w (boxT s r c f v) (boxT s' r' c' f' v')
  obtain ⟨p0, p1, p2, p3, p4⟩ := row_tp ra
  obtain ⟨q0, q1, q2, q3, q4⟩ := row_tp rb
  have B7 := Lib.hid b7
  have RA := Lib.hid ra
  have RB := Lib.hid rb
  have Z7 := Lib.hid z7
  have H := Lib.hid (h.below b7)
  have H' := Lib.hid (h'.below b7)
  have SM := Lib.hid (ksame_any s r c f v l s' r' c' f' v' l' (by omega) w7 H.out H'.out)
  obtain ⟨A, n, rfl, -, -, -⟩ := h
  obtain ⟨A', n', rfl, -, -, -⟩ := h'
  clear b7 ra rb z7
  cases hs : sameP l l' with
  | false =>
    rw [hs] at SM
    have R := Lib.hid (ov_no hs)
    clear hs
    go_enter Tryd.func25, Tryd.ntmps25
    go_wp2_with fail
    refine SM.out.mono ?_
    rintro e w1 ⟨rfl, b1⟩
    have B1 : Hid (Below w.heap.size w w1) := B7.out.trans (b1.mono B7.out.size)
    clear b1 SM
    go_wp2_with fail
    go_ret
    exact ⟨ret_bool R.out.symm, B1.out⟩
  | true =>
    rw [hs] at SM
    rw [ov_yes hs]
    have LE := Lib.hid (same_lens hs)
    obtain ⟨R, hR⟩ : ∃ R, twT latE earE (evZ l l') = R := ⟨_, rfl⟩
    have ST : Hid (R = twF latE earE false ((evZ l l').drop 0)) := by show _ = _; rw [← hR]; rfl
    rw [hR]
    clear hs hR
    go_enter Tryd.func25, Tryd.ntmps25
    go_wp2_with fail
    clear hw7
    refine SM.out.mono ?_
    rintro e w1 ⟨rfl, b1⟩
    have B1 : Hid (Below w.heap.size w w1) := B7.out.trans (b1.mono B7.out.size)
    have RA1 : Hid (w1.heap[w.heap.size]? = some (boxT s r c f (.slice A l.length n))) := (b1.block _ (by rw [Z7.out]; omega)).trans RA.out
    obtain ⟨m0, m1, m2, m3, m4⟩ := row_tp ((b1.block _ (by rw [Z7.out]; omega)).trans RB.out)
    have K1 := Lib.hid (kev_any s' r' c' f' (.slice A' l'.length n') l' hl' w1 (H'.out.below b1))
    have H1 := Lib.hid (H.out.below b1)
    have S1 : Hid (w.heap.size < w1.heap.size) := Nat.lt_of_lt_of_le (by rw [Z7.out]; omega) b1.size
    clear b1 SM RA RB p0 p1 p2 p3 p4 q0 q1 q2 q3 q4 B7 H H' Z7
    go_wp2_with fail
    refine K1.out.mono ?_
    rintro e w2 ⟨ys, rfl, oy, b2⟩
    have B2 : Hid (Below w.heap.size w w2) := B1.out.trans (b2.mono B1.out.size)
    have OY := Lib.hid (OwnI.lst oy)
    obtain ⟨m0, m1, m2, m3, m4⟩ := row_tp ((b2.block _ S1.out).trans RA1.out)
    have K2 := Lib.hid (kev_any s r c f (.slice A l.length n) l hl w2 (H1.out.below b2))
    clear b2 K1 oy B1 RA1 H1 S1
    obtain ⟨AY, cy, rfl, -, -, -⟩ := _root_.id OY.out
    go_wp2_with fail
    refine K2.out.mono ?_
    rintro e w3 ⟨xs, rfl, ox, b3⟩
    have B3 : Hid (Below w.heap.size w w3) := B2.out.trans (b3.mono B2.out.size)
    have OX := Lib.hid (OwnI.lst ox)
    have OY3 := Lib.hid (OY.out.below b3)
    clear b3 K2 ox B2 OY m0 m1 m2 m3 m4
    obtain ⟨AX, cx, rfl, -, -, -⟩ := _root_.id OX.out
    have ex : (evC l).length = 2 * l.length := evC_len l
    have ey : (evC l').length = 2 * l.length := by rw [evC_len, LE.out]
    have EX := Lib.hid ex
    have EY := Lib.hid ey
    have hn : 2 * l.length ≤ 68719476736 := by omega
    have EZ := Lib.hid (evZ_len LE.out)
    obtain ⟨N2, hN2⟩ : ∃ N2, 2 * l.length = N2 := ⟨_, rfl⟩
    rw [hN2] at ex ey hn EX EY EZ
    rw [ex] at OX ⊢
    rw [ey] at OY3 ⊢
    clear hN2 ex ey hl hl' LE
    go_wp2_with fail
    go_loopw [5, 18] (fun q i wr => ∃ (k : Nat) (g : Bool), q = .bool g ∧ i = .int .i64 k ∧ k ≤ N2 ∧ Hid (R = twF latE earE g ((evZ l l').drop k)) ∧ Hid (w3 = wr)) (fun _ i _ => N2 - (intOf i).toNat)
    case atStart => exact ⟨0, false, rfl, rfl, Nat.zero_le _, ST, Lib.hid rfl⟩
    case round =>
      clear ST
      obtain ⟨k, g, rfl, rfl, hk, hz, HB⟩ := hrel
      obtain rfl := HB.out
      have BB : Hid True := Lib.hid trivial
      by_cases hlt : k < N2
      · obtain ⟨x, hx⟩ := at_lt (l := evC l) (k := k) (by rw [EX.out]; exact hlt)
        obtain ⟨y, hy⟩ := at_lt (l := evC l') (k := k) (by rw [EY.out]; exact hlt)
        obtain ⟨b, o, rfl, -, hcx⟩ : ∃ b o, AX = some ⟨b, o, none⟩ ∧ b < w3.heap.size ∧ ∀ (j : Nat) z, (ints (evC l))[j]? = some z → w3.cell? ⟨b, o + j, none⟩ = some z := by
          obtain ⟨A1, c1, e1, -, -, h1⟩ := OX.out
          cases e1
          exact h1 (by rw [EX.out]; omega)
        obtain ⟨b', o', rfl, -, hcy⟩ : ∃ b o, AY = some ⟨b, o, none⟩ ∧ b < w3.heap.size ∧ ∀ (j : Nat) z, (ints (evC l'))[j]? = some z → w3.cell? ⟨b, o + j, none⟩ = some z := by
          obtain ⟨A1, c1, e1, -, -, h1⟩ := OY3.out
          cases e1
          exact h1 (by rw [EY.out]; omega)
        have m0 := hcx k _ (ints_at _ k x hx)
        have m1 := hcy k _ (ints_at _ k y hy)
        have HX := Lib.hid (evZ_at hx hy)
        have gk : (k : Int) < (N2 : Int) := by omega
        clear hx hy hcx hcy
        cases g with
        | true =>
          by_cases e0 : x < y
          · have N := Lib.hid (tw_hit hz.out HX.out rfl (ear_yes e0))
            clear hz HX
            go_wp2_with fail
            go_ret
            exact ⟨ret_bool N.out.symm, B3.out⟩
          · have t0 : decide (x < y) = false := decide_eq_false e0
            have N := Lib.hid (tw_next (g := true) hz.out HX.out (by rw [ear_no e0]; rfl) rfl)
            clear hz HX e0
            go_wp2_with fail
            go_roundw
            case rel => exact ⟨k + 1, true, rfl, by go_num, by omega, N, BB⟩
            case measure => simp [intOf]; omega
        | false =>
          by_cases e0 : y < x
          · have N := Lib.hid (tw_next (g := true) hz.out HX.out rfl (by rw [lat_yes e0]; rfl))
            clear hz HX
            go_wp2_with fail
            go_roundw
            case rel => exact ⟨k + 1, true, rfl, by go_num, by omega, N, BB⟩
            case measure => simp [intOf]; omega
          · have t0 : decide (y < x) = false := decide_eq_false e0
            have N := Lib.hid (tw_next (g := false) hz.out HX.out rfl (by rw [lat_no e0]; rfl))
            clear hz HX e0
            go_wp2_with fail
            go_roundw
            case rel => exact ⟨k + 1, false, rfl, by go_num, by omega, N, BB⟩
            case measure => simp [intOf]; omega
      · have E := Lib.hid (tw_end hz.out (show (evZ l l').length ≤ k by rw [EZ.out]; omega))
        have d : decide (k < N2) = false := by rw [decide_eq_false_iff_not]; exact hlt
        clear hlt hz
        go_wp2_with fail
        go_ret
        exact ⟨ret_bool E.out.symm, B3.out⟩
/-- What a region that draws its order has left alone: a trip's box. -/
theorem box_regrown {w : World} {b : Nat} {s : ByteArray} {r k : Int} {f : Bool} {v : Value} (h : w.heap[b]? = some (boxT s r k f v)) : ∀ (d : Nat) (os : Array Obj), (Sort.grow (redrawn w d) os).cell? ⟨b, 0, none⟩ = some (.string s) ∧ (Sort.grow (redrawn w d) os).cell? ⟨b, 1, none⟩ = some (.int .i64 r) ∧ (Sort.grow (redrawn w d) os).cell? ⟨b, 2, none⟩ = some (.int .i64 k) ∧ (Sort.grow (redrawn w d) os).cell? ⟨b, 3, none⟩ = some (.bool f) ∧ (Sort.grow (redrawn w d) os).cell? ⟨b, 4, none⟩ = some v := by
  obtain ⟨p0, p1, p2, p3, p4⟩ := row_tp h
  exact fun d os => ⟨cell_regrown p0 d os, cell_regrown p1 d os, cell_regrown p2 d os, cell_regrown p3 d os, cell_regrown p4 d os⟩
set_option maxRecDepth 100000 in
set_option maxHeartbeats 16000000 in
theorem rover_any (s : ByteArray) (r c : Int) (f : Bool) (v : Value) (l : List Cl) (s' : ByteArray) (r' c' : Int) (f' : Bool) (v' : Value) (l' : List Cl) (hl : l.length ≤ 34359738368) (hl' : l'.length ≤ 34359738368) (w : World) (h : LstC w v l) (h' : LstC w v' l') :
    Calls Tryd.prog 26 #[.agg #[.string s, .int .i64 r, .int .i64 c, .bool f, v], .agg #[.string s', .int .i64 r', .int .i64 c', .bool f', v']] w fun e w' => e = .returned (.bool (ovT l l')) ∧ Below w.heap.size w w' := by
  obtain ⟨w7, hw7, z7, ra, rb, b7⟩ := box_both w (boxT s r c f v) (boxT s' r' c' f' v')
  obtain ⟨p0, p1, p2, p3, p4⟩ := row_tp ra
  obtain ⟨q0, q1, q2, q3, q4⟩ := row_tp rb
  have B7 := Lib.hid b7
  have RA := Lib.hid ra
  have RB := Lib.hid rb
  have Z7 := Lib.hid z7
  have H := Lib.hid (h.below b7)
  have H' := Lib.hid (h'.below b7)
  have SM := Lib.hid (rsame_any s r c f v l s' r' c' f' v' l' (by omega) w7 H.out H'.out)
  obtain ⟨A, n, rfl, -, -, -⟩ := h
  obtain ⟨A', n', rfl, -, -, -⟩ := h'
  clear b7 ra rb z7
  cases hs : sameP l l' with
  | false =>
    rw [hs] at SM
    have R := Lib.hid (ov_no hs)
    clear hs
    go_enter Tryd.func26, Tryd.ntmps26
    go_wp2_with fail
    refine SM.out.mono ?_
    rintro e w1 ⟨rfl, b1⟩
    have B1 : Hid (Below w.heap.size w w1) := B7.out.trans (b1.mono B7.out.size)
    clear b1 SM
    go_wp2_with fail
    go_ret
    exact ⟨ret_bool R.out.symm, B1.out⟩
  | true =>
    rw [hs] at SM
    rw [ov_yes hs]
    have LE := Lib.hid (same_lens hs)
    obtain ⟨R, hR⟩ : ∃ R, twT latE earE (evZ l l') = R := ⟨_, rfl⟩
    have HR := Lib.hid hR
    rw [hR]
    clear hs hR
    go_enter Tryd.func26, Tryd.ntmps26
    go_wp2_with fail
    clear hw7
    refine SM.out.mono ?_
    rintro e w1 ⟨rfl, b1⟩
    have B1 : Hid (Below w.heap.size w w1) := B7.out.trans (b1.mono B7.out.size)
    have RA1 : Hid (w1.heap[w.heap.size]? = some (boxT s r c f (.slice A l.length n))) := (b1.block _ (by rw [Z7.out]; omega)).trans RA.out
    have RB1 : Hid (w1.heap[w.heap.size + 1]? = some (boxT s' r' c' f' (.slice A' l'.length n'))) := (b1.block _ (by rw [Z7.out]; omega)).trans RB.out
    have H1 := Lib.hid (H.out.below b1)
    have H1' := Lib.hid (H'.out.below b1)
    have S1 : Hid (w.heap.size + 1 < w1.heap.size) := Nat.lt_of_lt_of_le (by rw [Z7.out]; omega) b1.size
    clear b1 SM RA RB p0 p1 p2 p3 p4 q0 q1 q2 q3 q4 B7 H H' Z7
    have EX := Lib.hid (evC_len l)
    have EY : Hid ((evC l').length = 2 * l.length) := by show _ = _; rw [evC_len, LE.out]
    have EZ := Lib.hid (evZ_len LE.out)
    go_wp2_with fail
    go_loopw [5] (fun i wr => ∃ k : Nat, i = .int .i64 k ∧ k ≤ 2 * l.length ∧ Hid (NoP latE earE (evZ l l') k) ∧ Hid (Below w1.heap.size w1 wr)) (fun i _ => 2 * l.length - (intOf i).toNat)
    case atStart => exact ⟨0, rfl, Nat.zero_le _, Lib.hid (np_zero _), Lib.hid (Below.refl _ _)⟩
    case round =>
      obtain ⟨k, rfl, hk, HP, HB⟩ := hrel
      have RA2 : Hid (wr.heap[w.heap.size]? = some (boxT s r c f (.slice A l.length n))) := (HB.out.block _ (by have := S1.out; omega)).trans RA1.out
      obtain ⟨-, -, -, -, p4⟩ := row_tp RA2.out
      by_cases hlt : k < 2 * l.length
      · have gk : (k : Int) < 2 * (l.length : Int) := by omega
        have NZ := Lib.hid (nq_zero (p := latE) (q := earE) (evZ l l') k)
        go_wp2_with fail
        clear p4 RA2
        go_loopw [6] (fun i wr => ∃ m : Nat, i = .int .i64 m ∧ k < m ∧ (m ≤ 2 * l.length) ∧ Hid (NoQ latE earE (evZ l l') k m) ∧ Hid (Below w1.heap.size w1 wr)) (fun i _ => 2 * l.length - (intOf i).toNat)
        case atStart => exact ⟨k + 1, by go_num, by omega, by omega, NZ, HB⟩
        case round =>
          clear NZ HB
          obtain ⟨m, rfl, hkm, hm, HQ, HB⟩ := hrel
          have BW : Hid (Below w.heap.size w wr) := B1.out.trans (HB.out.mono B1.out.size)
          have RA2 : Hid (wr.heap[w.heap.size]? = some (boxT s r c f (.slice A l.length n))) := (HB.out.block _ (by have := S1.out; omega)).trans RA1.out
          have RB2 : Hid (wr.heap[w.heap.size + 1]? = some (boxT s' r' c' f' (.slice A' l'.length n'))) := (HB.out.block _ S1.out).trans RB1.out
          obtain ⟨-, -, -, -, p4⟩ := row_tp RA2.out
          by_cases hlm : m < 2 * l.length
          · have gm : (m : Int) < 2 * (l.length : Int) := by omega
            obtain ⟨x, hx⟩ := at_lt (l := evC l) (k := k) (by rw [EX.out]; exact hlt)
            obtain ⟨y, hy⟩ := at_lt (l := evC l') (k := k) (by rw [EY.out]; exact hlt)
            obtain ⟨x', hx'⟩ := at_lt (l := evC l) (k := m) (by rw [EX.out]; exact hlm)
            obtain ⟨y', hy'⟩ := at_lt (l := evC l') (k := m) (by rw [EY.out]; exact hlm)
            have D1 := Lib.hid (fun d os => Calls.regrown_of (w := wr) (d := d) (os := os) (ev_any s r c f (.slice A l.length n) l hl k x hx _ (H1.out.below (HB.out.trans ((below_regrown wr d os).mono HB.out.size)))))
            have D2 := Lib.hid (fun d os => Calls.regrown_of (w := wr) (d := d) (os := os) (ev_any s' r' c' f' (.slice A' l'.length n') l' hl' k y hy _ (H1'.out.below (HB.out.trans ((below_regrown wr d os).mono HB.out.size)))))
            have D3 := Lib.hid (fun d os => Calls.regrown_of (w := wr) (d := d) (os := os) (ev_any s r c f (.slice A l.length n) l hl m x' hx' _ (H1.out.below (HB.out.trans ((below_regrown wr d os).mono HB.out.size)))))
            have D4 := Lib.hid (fun d os => Calls.regrown_of (w := wr) (d := d) (os := os) (ev_any s' r' c' f' (.slice A' l'.length n') l' hl' m y' hy' _ (H1'.out.below (HB.out.trans ((below_regrown wr d os).mono HB.out.size)))))
            have HX := Lib.hid (evZ_at hx hy)
            have HY := Lib.hid (evZ_at hx' hy')
            have G0 := fun d os => (box_regrown RA2.out d os).1
            have G1 := fun d os => (box_regrown RA2.out d os).2.1
            have G2 := fun d os => (box_regrown RA2.out d os).2.2.1
            have G3 := fun d os => (box_regrown RA2.out d os).2.2.2.1
            have G4 := fun d os => (box_regrown RA2.out d os).2.2.2.2
            have J0 := fun d os => (box_regrown RB2.out d os).1
            have J1 := fun d os => (box_regrown RB2.out d os).2.1
            have J2 := fun d os => (box_regrown RB2.out d os).2.2.1
            have J3 := fun d os => (box_regrown RB2.out d os).2.2.2.1
            have J4 := fun d os => (box_regrown RB2.out d os).2.2.2.2
            clear hx hy hx' hy' RA2 RB2
            by_cases e0 : y < x
            · by_cases e1 : x' < y'
              · have N := Lib.hid (tw_yes (p := latE) (q := earE) hkm HX.out HY.out (lat_yes e0) (ear_yes e1))
                clear HX HY HP HQ
                go_wp2_with fail
                refine wp_region_quiet_below (by kernel_rfl) (by kernel_rfl) ?_
                repeat (go_big_quiet_step (first | with_reducible exact D1.out _ _ | with_reducible exact D2.out _ _ | with_reducible exact D3.out _ _ | with_reducible exact D4.out _ _))
                refine wpQuiet_nil ?_
                intro w4 hw4
                have B4 : Hid (Below w1.heap.size w1 w4) := by
                  obtain ⟨p, rfl⟩ := hw4
                  exact HB.out.trans ((below_regrown wr p.d p.os).mono HB.out.size)
                have W4 : Hid (Below w.heap.size w w4) := B1.out.trans (B4.out.mono B1.out.size)
                clear hw4 BW HB D1 D2 D3 D4 G0 G1 G2 G3 G4 J0 J1 J2 J3 J4 p4
                go_wp2_with fail
                go_ret
                exact ⟨ret_bool (N.out.symm.trans HR.out), W4.out⟩
              · have t1 : decide (x' < y') = false := decide_eq_false e1
                have N := Lib.hid (nq_next HQ.out HX.out HY.out (fun _ => ear_no e1))
                clear HX HY HQ e1
                go_wp2_with fail
                refine wp_region_quiet_below (by kernel_rfl) (by kernel_rfl) ?_
                repeat (go_big_quiet_step (first | with_reducible exact D1.out _ _ | with_reducible exact D2.out _ _ | with_reducible exact D3.out _ _ | with_reducible exact D4.out _ _))
                refine wpQuiet_nil ?_
                intro w4 hw4
                have B4 : Hid (Below w1.heap.size w1 w4) := by
                  obtain ⟨p, rfl⟩ := hw4
                  exact HB.out.trans ((below_regrown wr p.d p.os).mono HB.out.size)
                have W4 : Hid (Below w.heap.size w w4) := B1.out.trans (B4.out.mono B1.out.size)
                clear hw4 BW HB D1 D2 D3 D4 G0 G1 G2 G3 G4 J0 J1 J2 J3 J4 p4
                clear W4
                go_wp2_with fail
                go_roundw
                case rel => exact ⟨m + 1, by go_num, by omega, by omega, N, B4⟩
                case measure => simp [intOf]; omega
            · have t0 : decide (y < x) = false := decide_eq_false e0
              have N := Lib.hid (nq_next HQ.out HX.out HY.out (fun h => by rw [lat_no e0] at h; cases h))
              clear HX HY HQ e0
              go_wp2_with fail
              refine wp_region_quiet_below (by kernel_rfl) (by kernel_rfl) ?_
              repeat (go_big_quiet_step (first | with_reducible exact D1.out _ _ | with_reducible exact D2.out _ _ | with_reducible exact D3.out _ _ | with_reducible exact D4.out _ _))
              refine wpQuiet_nil ?_
              intro w4 hw4
              have B4 : Hid (Below w1.heap.size w1 w4) := by
                obtain ⟨p, rfl⟩ := hw4
                exact HB.out.trans ((below_regrown wr p.d p.os).mono HB.out.size)
              have W4 : Hid (Below w.heap.size w w4) := B1.out.trans (B4.out.mono B1.out.size)
              clear hw4 BW HB D1 D2 D3 D4 G0 G1 G2 G3 G4 J0 J1 J2 J3 J4 p4
              clear W4
              go_wp2_with fail
              go_roundw
              case rel => exact ⟨m + 1, by go_num, by omega, by omega, N, B4⟩
              case measure => simp [intOf]; omega
          · have d : decide ((m : Int) < 2 * (l.length : Int)) = false := by rw [decide_eq_false_iff_not]; omega
            have N := Lib.hid (np_next HP.out HQ.out (show (evZ l l').length ≤ m by rw [EZ.out]; omega))
            clear hlm HP HQ BW RA2 RB2
            go_wp2_with fail
            go_roundw
            case rel => exact ⟨k + 1, by go_num, by omega, N, HB⟩
            case measure => simp [intOf]; omega
      · have E := Lib.hid (np_end HP.out (show (evZ l l').length ≤ k by rw [EZ.out]; omega))
        have d : decide ((k : Int) < 2 * (l.length : Int)) = false := by rw [decide_eq_false_iff_not]; omega
        have BW : Hid (Below w.heap.size w wr) := B1.out.trans (HB.out.mono B1.out.size)
        clear hlt HP RA2
        go_wp2_with fail
        go_ret
        exact ⟨ret_bool (E.out.symm.trans HR.out), BW.out⟩
end Go.Proofs.YtfbobfejnbhjbaaDoor
