/-
  The laws TripPatterns, TripOvertakes: each answers true for every input; nothing that existed before the call has changed behind it. Condition: the table that numerals are made with; lengths of 63 bits.
-/
import Derived.Test.YtfbobfejnbhjbaaDoorTrEx
namespace Go.Proofs.YtfbobfejnbhjbaaDoor
open Go.RowKit

theorem beq_same (b : Bool) : (b == b) = true := by cases b <;> rfl
set_option maxRecDepth 100000 in
set_option maxHeartbeats 16000000 in
theorem over_law (s : ByteArray) (r c : Int) (f : Bool) (v : Value) (l : List Cl) (_ : l.length ≤ 9223372036854775807) (_ : OkS l) (s' : ByteArray) (r' c' : Int) (f' : Bool) (v' : Value) (l' : List Cl) (_ : l'.length ≤ 9223372036854775807) (_ : OkS l') (w : World) (hg : GoodP w) (h : LstC w v l) (h' : LstC w v' l') : Calls Tryd.prog 7 #[.agg #[.string s, .int .i64 r, .int .i64 c, .bool f, v], .agg #[.string s', .int .i64 r', .int .i64 c', .bool f', v']] w fun e w' => e = .returned (.bool true) ∧ Below w.heap.size w w' := by
  obtain ⟨w7, hw7, z7, ra, rb, b7⟩ := box_both w (boxT s r c f v) (boxT s' r' c' f' v')
  obtain ⟨p0, p1, p2, p3, p4⟩ := row_tp ra
  obtain ⟨q0, q1, q2, q3, q4⟩ := row_tp rb
  have B7 := Lib.hid b7
  have RA := Lib.hid ra
  have RB := Lib.hid rb
  have Z7 := Lib.hid z7
  have H := Lib.hid (h.below b7)
  have H' := Lib.hid (h'.below b7)
  have G7 := Lib.hid (hg.below b7)
  have S1 := Lib.hid (small_any s r c f v l w7 H.out)
  have S2 := Lib.hid (fun W hW => small_any s' r' c' f' v' l' W hW)
  obtain ⟨A, n, rfl, -, -, -⟩ := h
  obtain ⟨A', n', rfl, -, -, -⟩ := h'
  clear b7 ra rb z7 hg
  by_cases h1 : (decide (s.size ≤ 1024) && decide (l.length ≤ 40)) = false
  · rw [h1] at S1
    clear h1
    go_enter Tryd.func7, Tryd.ntmps7
    go_wp2_with fail
    refine S1.out.mono ?_
    rintro e w1 ⟨rfl, b1⟩
    have B1 : Hid (Below w.heap.size w w1) := B7.out.trans (b1.mono B7.out.size)
    have G1 := Lib.hid (G7.out.below b1)
    clear b1 S1 S2 B7 G7 H H' RA RB Z7 p0 p1 p2 p3 p4 q0 q1 q2 q3 q4
    go_wp2_with fail
    refine (ex_any _ G1.out).mono ?_
    rintro e x9 ⟨rfl, y9⟩
    have B9 : Hid (Below w.heap.size w x9) := B1.out.trans (y9.mono B1.out.size)
    clear y9 
    go_wp2_with fail
    go_ret
    exact ⟨rfl, B9.out⟩
  rw [Bool.not_eq_false] at h1
  rw [h1] at S1
  rw [Bool.and_eq_true, decide_eq_true_iff, decide_eq_true_iff] at h1
  have hL := h1.2
  by_cases h2 : (decide (s'.size ≤ 1024) && decide (l'.length ≤ 40)) = false
  · rw [h2] at S2
    clear h1 h2 hL
    go_enter Tryd.func7, Tryd.ntmps7
    go_wp2_with fail
    refine S1.out.mono ?_
    rintro e w1 ⟨rfl, b1⟩
    have B1 : Hid (Below w.heap.size w w1) := B7.out.trans (b1.mono B7.out.size)
    have G1 := Lib.hid (G7.out.below b1)
    have H1' := Lib.hid (H'.out.below b1)
    obtain ⟨m0, m1, m2, m3, m4⟩ := row_tp ((b1.block _ (by rw [Z7.out]; omega)).trans RB.out)
    clear b1 S1 B7 G7 H H' RA RB Z7 p0 p1 p2 p3 p4 q0 q1 q2 q3 q4 hw7
    go_wp2_with fail
    refine (S2.out _ H1'.out).mono ?_
    rintro e w2 ⟨rfl, b2⟩
    have B2 : Hid (Below w.heap.size w w2) := B1.out.trans (b2.mono B1.out.size)
    have G2 := Lib.hid (G1.out.below b2)
    clear b2 S2 B1 G1 H1' m0 m1 m2 m3 m4
    go_wp2_with fail
    refine (ex_any _ G2.out).mono ?_
    rintro e x9 ⟨rfl, y9⟩
    have B9 : Hid (Below w.heap.size w x9) := B2.out.trans (y9.mono B2.out.size)
    clear y9 
    go_wp2_with fail
    go_ret
    exact ⟨rfl, B9.out⟩
  rw [Bool.not_eq_false] at h2
  rw [h2] at S2
  rw [Bool.and_eq_true, decide_eq_true_iff, decide_eq_true_iff] at h2
  have hL' := h2.2
  clear h1 h2
  go_enter Tryd.func7, Tryd.ntmps7
  go_wp2_with fail
  refine S1.out.mono ?_
  rintro e w1 ⟨rfl, b1⟩
  have B1 : Hid (Below w.heap.size w w1) := B7.out.trans (b1.mono B7.out.size)
  have G1 := Lib.hid (G7.out.below b1)
  have H1 := Lib.hid (H.out.below b1)
  have H1' := Lib.hid (H'.out.below b1)
  have RA1 : Hid (w1.heap[w.heap.size]? = some (boxT s r c f (.slice A l.length n))) := (b1.block _ (by rw [Z7.out]; omega)).trans RA.out
  have RB1 : Hid (w1.heap[w.heap.size + 1]? = some (boxT s' r' c' f' (.slice A' l'.length n'))) := (b1.block _ (by rw [Z7.out]; omega)).trans RB.out
  have Z1 : Hid (w.heap.size + 1 < w1.heap.size) := Nat.lt_of_lt_of_le (by rw [Z7.out]; omega) b1.size
  obtain ⟨m0, m1, m2, m3, m4⟩ := row_tp RB1.out
  clear b1 S1 B7 G7 H H' RA RB Z7 p0 p1 p2 p3 p4 q0 q1 q2 q3 q4 hw7
  go_wp2_with fail
  refine (S2.out _ H1'.out).mono ?_
  rintro e w2 ⟨rfl, b2⟩
  have B2 : Hid (Below w.heap.size w w2) := B1.out.trans (b2.mono B1.out.size)
  have G2 := Lib.hid (G1.out.below b2)
  have H2 := Lib.hid (H1.out.below b2)
  have H2' := Lib.hid (H1'.out.below b2)
  have RA2 : Hid (w2.heap[w.heap.size]? = some (boxT s r c f (.slice A l.length n))) := (b2.block _ (by have := Z1.out; omega)).trans RA1.out
  have RB2 : Hid (w2.heap[w.heap.size + 1]? = some (boxT s' r' c' f' (.slice A' l'.length n'))) := (b2.block _ Z1.out).trans RB1.out
  have Z2 : Hid (w.heap.size + 1 < w2.heap.size) := Nat.lt_of_lt_of_le Z1.out b2.size
  clear b2 S2 B1 G1 H1 H1' RA1 RB1 Z1 m0 m1 m2 m3 m4
  have D1 := Lib.hid (fun d os => Calls.regrown_of (w := w2) (d := d) (os := os) (kover_any s r c f (.slice A l.length n) l s' r' c' f' (.slice A' l'.length n') l' (by omega) (by omega) _ (H2.out.below (below_regrown w2 d os)) (H2'.out.below (below_regrown w2 d os))))
  have D2 := Lib.hid (fun d os => Calls.regrown_of (w := w2) (d := d) (os := os) (rover_any s r c f (.slice A l.length n) l s' r' c' f' (.slice A' l'.length n') l' (by omega) (by omega) _ (H2.out.below (below_regrown w2 d os)) (H2'.out.below (below_regrown w2 d os))))
  have D3 := Lib.hid (fun d os => Calls.regrown_of (w := w2) (d := d) (os := os) (ex_any _ (G2.out.below (below_regrown w2 d os))))
  have Q0 := fun d os => (box_regrown RA2.out d os).1
  have Q1 := fun d os => (box_regrown RA2.out d os).2.1
  have Q2 := fun d os => (box_regrown RA2.out d os).2.2.1
  have Q3 := fun d os => (box_regrown RA2.out d os).2.2.2.1
  have Q4 := fun d os => (box_regrown RA2.out d os).2.2.2.2
  have J0 := fun d os => (box_regrown RB2.out d os).1
  have J1 := fun d os => (box_regrown RB2.out d os).2.1
  have J2 := fun d os => (box_regrown RB2.out d os).2.2.1
  have J3 := fun d os => (box_regrown RB2.out d os).2.2.2.1
  have J4 := fun d os => (box_regrown RB2.out d os).2.2.2.2
  generalize ovT l l' = z at D1 D2
  have tz := beq_same z
  clear hL hL' RA2 RB2 Z2
  go_wp2_with fail
  refine wp_region_quiet_below (by kernel_rfl) (by kernel_rfl) ?_
  repeat (go_big_quiet_step (first | with_reducible exact D1.out _ _ | with_reducible exact D2.out _ _ | with_reducible exact D3.out _ _))
  refine wpQuiet_nil ?_
  intro w9 hw9
  have B9 : Hid (Below w.heap.size w w9) := by
    obtain ⟨p, rfl⟩ := hw9
    exact B2.out.trans ((below_regrown w2 p.d p.os).mono B2.out.size)
  clear hw9 D1 D2 D3 Q0 Q1 Q2 Q3 Q4 J0 J1 J2 J3 J4
  go_wp2_with fail
  go_ret
  exact ⟨rfl, B9.out⟩
set_option maxRecDepth 100000 in
set_option maxHeartbeats 16000000 in
theorem patt_law (s : ByteArray) (r c : Int) (f : Bool) (v : Value) (l : List Cl) (_ : l.length ≤ 9223372036854775807) (_ : OkS l) (s' : ByteArray) (r' c' : Int) (f' : Bool) (v' : Value) (l' : List Cl) (_ : l'.length ≤ 9223372036854775807) (_ : OkS l') (w : World) (hg : GoodP w) (h : LstC w v l) (h' : LstC w v' l') : Calls Tryd.prog 5 #[.agg #[.string s, .int .i64 r, .int .i64 c, .bool f, v], .agg #[.string s', .int .i64 r', .int .i64 c', .bool f', v']] w fun e w' => e = .returned (.bool true) ∧ Below w.heap.size w w' := by
  obtain ⟨w7, hw7, z7, ra, rb, b7⟩ := box_both w (boxT s r c f v) (boxT s' r' c' f' v')
  obtain ⟨p0, p1, p2, p3, p4⟩ := row_tp ra
  obtain ⟨q0, q1, q2, q3, q4⟩ := row_tp rb
  have B7 := Lib.hid b7
  have RA := Lib.hid ra
  have RB := Lib.hid rb
  have Z7 := Lib.hid z7
  have H := Lib.hid (h.below b7)
  have H' := Lib.hid (h'.below b7)
  have G7 := Lib.hid (hg.below b7)
  have S1 := Lib.hid (small_any s r c f v l w7 H.out)
  have S2 := Lib.hid (fun W hW => small_any s' r' c' f' v' l' W hW)
  obtain ⟨A, n, rfl, -, -, -⟩ := h
  obtain ⟨A', n', rfl, -, -, -⟩ := h'
  clear b7 ra rb z7 hg
  by_cases h1 : (decide (s.size ≤ 1024) && decide (l.length ≤ 40)) = false
  · rw [h1] at S1
    clear h1
    go_enter Tryd.func5, Tryd.ntmps5
    go_wp2_with fail
    refine S1.out.mono ?_
    rintro e w1 ⟨rfl, b1⟩
    have B1 : Hid (Below w.heap.size w w1) := B7.out.trans (b1.mono B7.out.size)
    have G1 := Lib.hid (G7.out.below b1)
    clear b1 S1 S2 B7 G7 H H' RA RB Z7 p0 p1 p2 p3 p4 q0 q1 q2 q3 q4
    go_wp2_with fail
    refine (ex_any _ G1.out).mono ?_
    rintro e x9 ⟨rfl, y9⟩
    have B9 : Hid (Below w.heap.size w x9) := B1.out.trans (y9.mono B1.out.size)
    clear y9 
    go_wp2_with fail
    go_ret
    exact ⟨rfl, B9.out⟩
  rw [Bool.not_eq_false] at h1
  rw [h1] at S1
  rw [Bool.and_eq_true, decide_eq_true_iff, decide_eq_true_iff] at h1
  have hL := h1.2
  by_cases h2 : (decide (s'.size ≤ 1024) && decide (l'.length ≤ 40)) = false
  · rw [h2] at S2
    clear h1 h2 hL
    go_enter Tryd.func5, Tryd.ntmps5
    go_wp2_with fail
    refine S1.out.mono ?_
    rintro e w1 ⟨rfl, b1⟩
    have B1 : Hid (Below w.heap.size w w1) := B7.out.trans (b1.mono B7.out.size)
    have G1 := Lib.hid (G7.out.below b1)
    have H1' := Lib.hid (H'.out.below b1)
    obtain ⟨m0, m1, m2, m3, m4⟩ := row_tp ((b1.block _ (by rw [Z7.out]; omega)).trans RB.out)
    clear b1 S1 B7 G7 H H' RA RB Z7 p0 p1 p2 p3 p4 q0 q1 q2 q3 q4 hw7
    go_wp2_with fail
    refine (S2.out _ H1'.out).mono ?_
    rintro e w2 ⟨rfl, b2⟩
    have B2 : Hid (Below w.heap.size w w2) := B1.out.trans (b2.mono B1.out.size)
    have G2 := Lib.hid (G1.out.below b2)
    clear b2 S2 B1 G1 H1' m0 m1 m2 m3 m4
    go_wp2_with fail
    refine (ex_any _ G2.out).mono ?_
    rintro e x9 ⟨rfl, y9⟩
    have B9 : Hid (Below w.heap.size w x9) := B2.out.trans (y9.mono B2.out.size)
    clear y9 
    go_wp2_with fail
    go_ret
    exact ⟨rfl, B9.out⟩
  rw [Bool.not_eq_false] at h2
  rw [h2] at S2
  rw [Bool.and_eq_true, decide_eq_true_iff, decide_eq_true_iff] at h2
  have hL' := h2.2
  clear h1 h2
  go_enter Tryd.func5, Tryd.ntmps5
  go_wp2_with fail
  refine S1.out.mono ?_
  rintro e w1 ⟨rfl, b1⟩
  have B1 : Hid (Below w.heap.size w w1) := B7.out.trans (b1.mono B7.out.size)
  have G1 := Lib.hid (G7.out.below b1)
  have H1 := Lib.hid (H.out.below b1)
  have H1' := Lib.hid (H'.out.below b1)
  have RA1 : Hid (w1.heap[w.heap.size]? = some (boxT s r c f (.slice A l.length n))) := (b1.block _ (by rw [Z7.out]; omega)).trans RA.out
  have RB1 : Hid (w1.heap[w.heap.size + 1]? = some (boxT s' r' c' f' (.slice A' l'.length n'))) := (b1.block _ (by rw [Z7.out]; omega)).trans RB.out
  have Z1 : Hid (w.heap.size + 1 < w1.heap.size) := Nat.lt_of_lt_of_le (by rw [Z7.out]; omega) b1.size
  obtain ⟨m0, m1, m2, m3, m4⟩ := row_tp RB1.out
  clear b1 S1 B7 G7 H H' RA RB Z7 p0 p1 p2 p3 p4 q0 q1 q2 q3 q4 hw7
  go_wp2_with fail
  refine (S2.out _ H1'.out).mono ?_
  rintro e w2 ⟨rfl, b2⟩
  have B2 : Hid (Below w.heap.size w w2) := B1.out.trans (b2.mono B1.out.size)
  have G2 := Lib.hid (G1.out.below b2)
  have H2 := Lib.hid (H1.out.below b2)
  have H2' := Lib.hid (H1'.out.below b2)
  have RA2 : Hid (w2.heap[w.heap.size]? = some (boxT s r c f (.slice A l.length n))) := (b2.block _ (by have := Z1.out; omega)).trans RA1.out
  have RB2 : Hid (w2.heap[w.heap.size + 1]? = some (boxT s' r' c' f' (.slice A' l'.length n'))) := (b2.block _ Z1.out).trans RB1.out
  have Z2 : Hid (w.heap.size + 1 < w2.heap.size) := Nat.lt_of_lt_of_le Z1.out b2.size
  clear b2 S2 B1 G1 H1 H1' RA1 RB1 Z1 m0 m1 m2 m3 m4
  obtain ⟨p0, p1, p2, p3, p4⟩ := row_tp RA2.out
  go_wp2_with fail
  refine (kpat_any s r c f (.slice A l.length n) l (by omega) w2 H2.out).mono ?_
  rintro e w3 ⟨u, rfl, o3, b3⟩
  have B3 : Hid (Below w.heap.size w w3) := B2.out.trans (b3.mono B2.out.size)
  have G3 := Lib.hid (G2.out.below b3)
  have H3 := Lib.hid (H2.out.below b3)
  have H3' := Lib.hid (H2'.out.below b3)
  have RA3 : Hid (w3.heap[w.heap.size]? = some (boxT s r c f (.slice A l.length n))) := (b3.block _ (by have := Z2.out; omega)).trans RA2.out
  have RB3 : Hid (w3.heap[w.heap.size + 1]? = some (boxT s' r' c' f' (.slice A' l'.length n'))) := (b3.block _ Z2.out).trans RB2.out
  have Z3 : Hid (w.heap.size + 1 < w3.heap.size) := Nat.lt_of_lt_of_le Z2.out b3.size
  have I3 := Lib.hid (OwnI.lst o3)
  clear p0 p1 p2 p3 p4
  obtain ⟨p0, p1, p2, p3, p4⟩ := row_tp RA3.out
  obtain ⟨A3, c3, rfl⟩ := own_shape' o3
  have t := neq_false (a := (l.length : Int)) (b := (l.length : Int)) rfl
  have SL := Lib.hid (stp_len l)
  rw [stp_len]
  clear b3 o3 B2 G2 H2 H2' RA2 RB2 Z2
  go_wp2_with fail
  go_loopw [6] (fun i wr => ∃ k : Nat, i = .int .i64 k ∧ k ≤ l.length ∧ Hid (∃ m, wr = w3.drewN m)) (fun i _ => l.length - (intOf i).toNat)
  case atStart => exact ⟨0, rfl, Nat.zero_le _, Lib.hid ⟨0, rfl⟩⟩
  case round =>
    clear t p0 p1 p2 p3 p4
    obtain ⟨k, rfl, hk, hn⟩ := hrel
    have bw := drew_below hn.out
    have RA4 : Hid (wr.heap[w.heap.size]? = some (boxT s r c f (.slice A l.length n))) := (bw.block _ (by have := Z3.out; omega)).trans RA3.out
    by_cases hlt : k < l.length
    · obtain ⟨⟨x, xa, xd, xo, xu⟩, hx⟩ := at_lt hlt
      obtain ⟨b, g, rfl, -, r0, -, -, -, -⟩ := five_at (H3.out.below bw) hx
      obtain ⟨b', g', rfl, hb', hc⟩ : ∃ b o, A3 = some ⟨b, o, none⟩ ∧ b < w3.heap.size ∧ ∀ (j : Nat) z, (ints (stpC l))[j]? = some z → w3.cell? ⟨b, o + j, none⟩ = some z := by
        obtain ⟨A1, c1, e1, -, -, h1⟩ := I3.out
        cases e1
        exact h1 (by rw [SL.out]; omega)
      have m0 := (bw.cell (p := ⟨b', g' + k, none⟩) hb').trans (hc k _ (ints_at _ k x (stp_at hx)))
      obtain ⟨-, -, -, -, p4⟩ := row_tp RA4.out
      have gk : (k : Int) < (l.length : Int) := by omega
      have te := neq_false (a := x) (b := x) rfl
      clear hx hc hb' bw
      go_wp2_with fail
      go_quiet (fail)
      go_wp2_with fail
      go_roundw
      case rel => exact ⟨k + 1, by go_num, by omega, drew_on hn nq⟩
      case measure => simp [intOf]; omega
    · have d : decide (k < l.length) = false := by rw [decide_eq_false_iff_not]; exact hlt
      have B4 : Hid (Below w.heap.size w wr) := B3.out.trans (bw.mono B3.out.size)
      have G4 := Lib.hid (G3.out.below bw)
      have H4 := Lib.hid (H3.out.below bw)
      have H4' := Lib.hid (H3'.out.below bw)
      have RB4 : Hid (wr.heap[w.heap.size + 1]? = some (boxT s' r' c' f' (.slice A' l'.length n'))) := (bw.block _ Z3.out).trans RB3.out
      clear bw hlt
      have D1 := Lib.hid (fun d os => Calls.regrown_of (w := wr) (d := d) (os := os) (ksame_any s r c f (.slice A l.length n) l s' r' c' f' (.slice A' l'.length n') l' (by omega) _ (H4.out.below (below_regrown wr d os)) (H4'.out.below (below_regrown wr d os))))
      have D2 := Lib.hid (fun d os => Calls.regrown_of (w := wr) (d := d) (os := os) (rsame_any s r c f (.slice A l.length n) l s' r' c' f' (.slice A' l'.length n') l' (by omega) _ (H4.out.below (below_regrown wr d os)) (H4'.out.below (below_regrown wr d os))))
      have D3 := Lib.hid (fun d os => Calls.regrown_of (w := wr) (d := d) (os := os) (ex_any _ (G4.out.below (below_regrown wr d os))))
      have Q0 := fun d os => (box_regrown RA4.out d os).1
      have Q1 := fun d os => (box_regrown RA4.out d os).2.1
      have Q2 := fun d os => (box_regrown RA4.out d os).2.2.1
      have Q3 := fun d os => (box_regrown RA4.out d os).2.2.2.1
      have Q4 := fun d os => (box_regrown RA4.out d os).2.2.2.2
      have J0 := fun d os => (box_regrown RB4.out d os).1
      have J1 := fun d os => (box_regrown RB4.out d os).2.1
      have J2 := fun d os => (box_regrown RB4.out d os).2.2.1
      have J3 := fun d os => (box_regrown RB4.out d os).2.2.2.1
      have J4 := fun d os => (box_regrown RB4.out d os).2.2.2.2
      generalize sameP l l' = z at D1 D2
      have tz := beq_same z
      clear RA4 RB4 Z3
      go_wp2_with fail
      refine wp_region_quiet_below (by kernel_rfl) (by kernel_rfl) ?_
      repeat (go_big_quiet_step (first | with_reducible exact D1.out _ _ | with_reducible exact D2.out _ _ | with_reducible exact D3.out _ _))
      refine wpQuiet_nil ?_
      intro w9 hw9
      have B9 : Hid (Below w.heap.size w w9) := by
        obtain ⟨p, rfl⟩ := hw9
        exact B4.out.trans ((below_regrown wr p.d p.os).mono B4.out.size)
      clear hw9 D1 D2 D3 Q0 Q1 Q2 Q3 Q4 J0 J1 J2 J3 J4
      go_wp2_with fail
      go_ret
      exact ⟨rfl, B9.out⟩
end Go.Proofs.YtfbobfejnbhjbaaDoor
