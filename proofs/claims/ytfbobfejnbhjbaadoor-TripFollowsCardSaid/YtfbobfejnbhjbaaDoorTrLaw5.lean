/-
  The laws TripFollows: each answers true for every input; nothing that existed before the call has changed behind it. Condition: the table that numerals are made with; lengths of 63 bits.
-/
import Derived.Test.YtfbobfejnbhjbaaDoorTrLaw2
import Derived.Test.YtfbobfejnbhjbaaDoorWShf
namespace Go.Proofs.YtfbobfejnbhjbaaDoor
open Go.RowKit

theorem box4_put {W : World} {b : Nat} {s : ByteArray} {r c : Int} {f : Bool} {o u : Value} (h : W.heap[b]? = some (boxT s r c f o)) : (W.setCell ⟨b, 4, none⟩ u).heap[b]? = some (boxT s r c f u) := by
  simp [World.setCell, Array.getElem?_modify, h]
/-- What a store in a lower block leaves of a row of the call's own. -/
theorem own_low {w : World} {base : Nat} {v : Value} {l : List Cl} (h : OwnC w base v l) {p : Addr} (hp : p.block < base) (u : Value) : OwnC (w.setCell p u) base v l := ownsRow_setCell_below h hp u
set_option maxRecDepth 100000 in
set_option maxHeartbeats 16000000 in
theorem foll_law (s : ByteArray) (r c : Int) (f : Bool) (v : Value) (l : List Cl) (_ : l.length ≤ 9223372036854775807) (_ : OkS l) (z : Int) (w : World) (hg : GoodP w) (h : LstC w v l) : Calls Tryd.prog 10 #[.agg #[.string s, .int .i64 r, .int .i64 c, .bool f, v], .int .i64 z] w fun e w' => e = .returned (.bool true) ∧ Below w.heap.size w w' := by
  obtain ⟨w0, hw0⟩ : ∃ W, w.alloc (boxT s r c f v) = W := ⟨_, rfl⟩
  have ra : w0.heap[w.heap.size]? = some (boxT s r c f v) := by rw [← hw0]; exact heap_alloc_new _ _
  obtain ⟨b0, p0, p1, p2, p3, p4, z0⟩ := box_tp hw0
  have B0 := Lib.hid b0
  have RA := Lib.hid ra
  have Z0 := Lib.hid z0
  have H := Lib.hid (h.below b0)
  have G0 := Lib.hid (hg.below b0)
  have S1 := Lib.hid (small_any s r c f v l w0 H.out)
  obtain ⟨A, n, rfl, -, -, -⟩ := h
  clear b0 ra z0 hg
  by_cases h1 : (decide (s.size ≤ 1024) && decide (l.length ≤ 40)) = false
  · rw [h1] at S1
    clear h1
    go_enter Tryd.func10, Tryd.ntmps10
    go_wp2_with fail
    refine S1.out.mono ?_
    rintro e w1 ⟨rfl, b1⟩
    have B1 : Hid (Below w.heap.size w w1) := B0.out.trans (b1.mono B0.out.size)
    have G1 := Lib.hid (G0.out.below b1)
    clear b1 S1 B0 G0 H RA Z0 p0 p1 p2 p3 p4
    go_wp2_with fail
    refine (ex_any _ G1.out).mono ?_
    rintro e x9 ⟨rfl, y9⟩
    have B9 : Hid (Below w.heap.size w x9) := B1.out.trans (y9.mono B1.out.size)
    clear y9 
    go_wp2_with fail
    go_ret
    exact ⟨rfl, B9.out⟩
  rw [Bool.not_eq_false] at h1
  rw [h1] at S1
  rw [Bool.and_eq_true, decide_eq_true_iff, decide_eq_true_iff] at h1
  have hL := h1.2
  clear h1
  by_cases e1 : z < -1099511627776
  · clear hL
    go_enter Tryd.func10, Tryd.ntmps10
    go_wp2_with fail
    refine S1.out.mono ?_
    rintro e w1 ⟨rfl, b1⟩
    have B1 : Hid (Below w.heap.size w w1) := B0.out.trans (b1.mono B0.out.size)
    have G1 := Lib.hid (G0.out.below b1)
    clear b1 S1 B0 G0 H RA Z0 p0 p1 p2 p3 p4
    go_wp2_with fail
    refine (ex_any _ G1.out).mono ?_
    rintro e x9 ⟨rfl, y9⟩
    have B9 : Hid (Below w.heap.size w x9) := B1.out.trans (y9.mono B1.out.size)
    clear y9 
    go_wp2_with fail
    go_ret
    exact ⟨rfl, B9.out⟩
  have d1 : decide (z < -1099511627776) = false := decide_eq_false e1
  by_cases e2 : 1099511627776 < z
  · clear hL
    go_enter Tryd.func10, Tryd.ntmps10
    go_wp2_with fail
    refine S1.out.mono ?_
    rintro e w1 ⟨rfl, b1⟩
    have B1 : Hid (Below w.heap.size w w1) := B0.out.trans (b1.mono B0.out.size)
    have G1 := Lib.hid (G0.out.below b1)
    clear b1 S1 B0 G0 H RA Z0 p0 p1 p2 p3 p4
    go_wp2_with fail
    refine (ex_any _ G1.out).mono ?_
    rintro e x9 ⟨rfl, y9⟩
    have B9 : Hid (Below w.heap.size w x9) := B1.out.trans (y9.mono B1.out.size)
    clear y9 
    go_wp2_with fail
    go_ret
    exact ⟨rfl, B9.out⟩
  have d2 : decide (1099511627776 < z) = false := decide_eq_false e2
  have ez0 : -1099511627776 ≤ z := by omega
  have ez1 : z ≤ 1099511627776 := by omega
  clear e1 e2
  go_enter Tryd.func10, Tryd.ntmps10
  go_wp2_with fail
  refine S1.out.mono ?_
  rintro e w1 ⟨rfl, b1⟩
  have B1 : Hid (Below w.heap.size w w1) := B0.out.trans (b1.mono B0.out.size)
  have G1 := Lib.hid (G0.out.below b1)
  have H1 := Lib.hid (H.out.below b1)
  have RA1 : Hid (w1.heap[w.heap.size]? = some (boxT s r c f (.slice A l.length n))) := (b1.block _ Z0.out).trans RA.out
  have Z1 : Hid (w.heap.size < w1.heap.size) := Nat.lt_of_lt_of_le Z0.out b1.size
  clear p0 p1 p2 p3 p4
  obtain ⟨p0, p1, p2, p3, p4⟩ := row_tp RA1.out
  obtain ⟨w4, hw4⟩ : ∃ W, w1.alloc (boxT s r c f (.slice A l.length n)) = W := ⟨_, rfl⟩
  have c4 : w4.heap[w1.heap.size]? = some (boxT s r c f (.slice A l.length n)) := by rw [← hw4]; exact heap_alloc_new _ _
  obtain ⟨q0, q1, q2, q3, q4⟩ := row_tp c4
  have f4 := frozen_of_row _ _ 4 _ _ c4
  obtain ⟨w5, hw5⟩ : ∃ W, w4.setCell ⟨w1.heap.size, 4, none⟩ (.slice none 0 0) = W := ⟨_, rfl⟩
  have C5 : Hid (w5.heap[w1.heap.size]? = some (boxT s r c f (.slice none 0 0))) := by rw [← hw5]; exact box4_put c4
  have K5 : Hid (Below w1.heap.size w1 w5) := by
    rw [← hw5, ← hw4]
    exact ((Below.refl _ _).alloc (Nat.le_refl _) _).setCell (Nat.le_refl _) _
  have z5 : w1.heap.size < w5.heap.size := by rw [← hw5, ← hw4]; simp [World.setCell]
  have Z5 := Lib.hid z5
  clear b1 S1 B0 G0 H RA Z0 c4 z5 hw0
  go_wp2_with fail
  clear p0 p1 p2 p3 p4 q0 q1 q2 q3 q4 f4 hw4 hw5 d1 d2
  obtain ⟨ub, hub⟩ : ∃ ub, w1.heap.size = ub := ⟨_, rfl⟩
  have HU := Lib.hid hub
  rw [hub] at C5 Z5 Z1 ⊢
  clear hub
  go_loopw [6] (fun i wr => ∃ (k : Nat) (o : Value), i = .int .i64 k ∧ k ≤ l.length ∧ Hid (wr.heap[ub]? = some (boxT s r c f o)) ∧ Hid (OwnC wr (ub + 1) o (mvC z (l.take k))) ∧ Hid (Below w1.heap.size w1 wr) ∧ Hid (ub < wr.heap.size)) (fun i _ => l.length - (intOf i).toNat)
  case atStart => exact ⟨0, _, rfl, Nat.zero_le _, C5, Lib.hid (OwnG.nil _ _ _ _ _), K5, Z5⟩
  case round =>
    clear C5 K5 Z5
    obtain ⟨k, o, rfl, hk, HC, HO, HB, HZ⟩ := hrel
    have RA4 : Hid (wr.heap[w.heap.size]? = some (boxT s r c f (.slice A l.length n))) := (HB.out.block _ (by have := Z1.out; have := HU.out; omega)).trans RA1.out
    obtain ⟨-, -, -, -, p4⟩ := row_tp RA4.out
    by_cases hlt : k < l.length
    · obtain ⟨⟨x, xa, xd, xo, xu⟩, hx⟩ := at_lt hlt
      obtain ⟨b, g, rfl, -, m0, m1, m2, m3, m4⟩ := five_at (H1.out.below HB.out) hx
      have gk : (k : Int) < (l.length : Int) := by omega
      have N := Lib.hid (mv_snoc (s := z) hx)
      obtain ⟨w7, hw7⟩ : ∃ W, wr.alloc (.cells #[.int .i64 x, .int .i64 xa, .int .i64 xd, .bool xo, .bool xu] 44 (0, 0)) = W := ⟨_, rfl⟩
      have c7 : w7.heap[wr.heap.size]? = some (boxC x xa xd xo xu) := by rw [← hw7]; exact heap_alloc_new _ _
      obtain ⟨⟨r0, r1, r2, r3, r4⟩, rf1, rf2⟩ := five_cells c7
      have b7 : Below wr.heap.size wr w7 := by rw [← hw7]; exact (Below.refl _ _).alloc (Nat.le_refl _) _
      have K7 : Hid (Below w1.heap.size w1 w7) := HB.out.trans (b7.mono HB.out.size)
      clear hx
      by_cases e1 : xa < -1099511627776
      · have B7 : Hid (Below w.heap.size w w7) := B1.out.trans (K7.out.mono B1.out.size)
        have G7 := Lib.hid (G1.out.below K7.out)
        clear c7 b7 K7 HB HO HC N RA4 H1 RA1
        go_wp2_with fail
        refine (ex_any _ G7.out).mono ?_
        rintro e x9 ⟨rfl, y9⟩
        have B9 : Hid (Below w.heap.size w x9) := B7.out.trans (y9.mono B7.out.size)
        clear y9 
        go_wp2_with fail
        go_ret
        exact ⟨rfl, B9.out⟩
      have d1 : decide (xa < -1099511627776) = false := decide_eq_false e1
      by_cases e2 : 1099511627776 < xa
      · have B7 : Hid (Below w.heap.size w w7) := B1.out.trans (K7.out.mono B1.out.size)
        have G7 := Lib.hid (G1.out.below K7.out)
        clear c7 b7 K7 HB HO HC N RA4 H1 RA1
        go_wp2_with fail
        refine (ex_any _ G7.out).mono ?_
        rintro e x9 ⟨rfl, y9⟩
        have B9 : Hid (Below w.heap.size w x9) := B7.out.trans (y9.mono B7.out.size)
        clear y9 
        go_wp2_with fail
        go_ret
        exact ⟨rfl, B9.out⟩
      have d2 : decide (1099511627776 < xa) = false := decide_eq_false e2
      by_cases e3 : xd < -1099511627776
      · have B7 : Hid (Below w.heap.size w w7) := B1.out.trans (K7.out.mono B1.out.size)
        have G7 := Lib.hid (G1.out.below K7.out)
        clear c7 b7 K7 HB HO HC N RA4 H1 RA1
        go_wp2_with fail
        refine (ex_any _ G7.out).mono ?_
        rintro e x9 ⟨rfl, y9⟩
        have B9 : Hid (Below w.heap.size w x9) := B7.out.trans (y9.mono B7.out.size)
        clear y9 
        go_wp2_with fail
        go_ret
        exact ⟨rfl, B9.out⟩
      have d3 : decide (xd < -1099511627776) = false := decide_eq_false e3
      by_cases e4 : 1099511627776 < xd
      · have B7 : Hid (Below w.heap.size w w7) := B1.out.trans (K7.out.mono B1.out.size)
        have G7 := Lib.hid (G1.out.below K7.out)
        clear c7 b7 K7 HB HO HC N RA4 H1 RA1
        go_wp2_with fail
        refine (ex_any _ G7.out).mono ?_
        rintro e x9 ⟨rfl, y9⟩
        have B9 : Hid (Below w.heap.size w x9) := B7.out.trans (y9.mono B7.out.size)
        clear y9 
        go_wp2_with fail
        go_ret
        exact ⟨rfl, B9.out⟩
      have d4 : decide (1099511627776 < xd) = false := decide_eq_false e4
      have ea0 : -1099511627776 ≤ xa := by omega
      have ea1 : xa ≤ 1099511627776 := by omega
      have ed0 : -1099511627776 ≤ xd := by omega
      have ed1 : xd ≤ 1099511627776 := by omega
      obtain ⟨w8, hw8⟩ : ∃ W, w7.setCell ⟨wr.heap.size, 1, none⟩ (.int .i64 (xa + z)) = W := ⟨_, rfl⟩
      obtain ⟨w9, hw9⟩ : ∃ W, w8.setCell ⟨wr.heap.size, 2, none⟩ (.int .i64 (xd + z)) = W := ⟨_, rfl⟩
      obtain ⟨c8, c9, z9, o9, g9⟩ := box_times c7 hw8 hw9
      obtain ⟨⟨q0, q1, q2, q3, q4⟩, qf1, qf2⟩ := five_cells c8
      obtain ⟨⟨t0, t1, t2, t3, t4⟩, tf1, tf2⟩ := five_cells c9
      have b9 : Below wr.heap.size wr w9 := g9 _ _ (Nat.le_refl _) b7
      have u9 : w9.heap[ub]? = some (boxT s r c f o) := (b9.block ub HZ.out).trans HC.out
      obtain ⟨s0, s1, s2, s3, s4⟩ := row_tp u9
      have K9 : Hid (Below w1.heap.size w1 w9) := HB.out.trans (b9.mono HB.out.size)
      have O9 := Lib.hid (HO.out.below b9)
      have U9 := Lib.hid u9
      have hlen : (mvC z (l.take k)).length ≤ 1000000 := by rw [mv_len, List.length_take]; omega
      have hz9 : ub < w9.heap.size := Nat.lt_of_lt_of_le HZ.out b9.size
      have Z9 := Lib.hid hz9
      clear b7 b9 c7 c8 c9 o9 g9 z9 u9 K7 HB HO HC e1 e2 e3 e4 RA4 s0 s1 s2 s3
      go_wp2_with (at_builtin; refine appG_one cc_len cc_one (by decide) Tryd.underlying37 info_cc rfl (by decide) _ rfl (.tmp 64) (.tmp 66) rfl (ub + 1) _ (mvC z (l.take k)) (x, xa + z, xd + z, xo, xu) rfl (World.ownsRow.alloc O9.out _) w9.heap.size _ (heap_alloc_new _ _) rfl rfl (by simp; omega) (by omega) ?_; intro u2 w10 own10 b10 _ _; refine Hid.out ?_)
      obtain ⟨A2, cc2, rfl, -, -, -⟩ := ownK_shape own10
      obtain ⟨n2, hn2⟩ : ∃ n2, (mvC z (l.take k) ++ [(x, xa + z, xd + z, xo, xu)]).length = n2 := ⟨_, rfl⟩
      rw [hn2] at own10 ⊢
      have c10 : w10.heap[ub]? = some (boxT s r c f o) := (b10.block ub (Nat.lt_succ_self _)).trans (kept_alloc U9.out)
      obtain ⟨s0, s1, s2, s3, s5⟩ := row_tp c10
      have f10 := frozen_of_row _ _ 4 _ _ c10
      have K10 : Hid (Below w1.heap.size w1 (w10.setCell ⟨ub, 4, none⟩ (.slice A2 n2 cc2))) := ((K9.out.alloc K9.out.size _).trans (b10.mono (by have := HU.out; omega))).setCell (by show w1.heap.size ≤ ub; have := HU.out; omega) _
      have C10 : Hid ((w10.setCell ⟨ub, 4, none⟩ (.slice A2 n2 cc2)).heap[ub]? = some (boxT s r c f (.slice A2 n2 cc2))) := box4_put c10
      have O10 : Hid (OwnC (w10.setCell ⟨ub, 4, none⟩ (.slice A2 n2 cc2)) (ub + 1) (.slice A2 n2 cc2) (mvC z (l.take (k + 1)))) := by
        show OwnC _ _ _ _
        rw [N.out]
        exact own_low own10 (Nat.lt_succ_self ub) _
      have Z10 : Hid (ub < (w10.setCell ⟨ub, 4, none⟩ (.slice A2 n2 cc2)).heap.size) := by
        rw [show (w10.setCell ⟨ub, 4, none⟩ (.slice A2 n2 cc2)).heap.size = w10.heap.size by simp [World.setCell]]
        exact Nat.lt_of_lt_of_le (Nat.lt_succ_of_lt Z9.out) (Nat.le_trans (by simp) b10.size)
      clear hn2 own10 b10 c10 N O9 K9 U9 Z9 hz9 t0 t1 t2 t3 t4 q0 q1 q2 q3 q4 r0 r1 r2 r3 r4 tf1 tf2 qf1 qf2 rf1 rf2 hw7 hw8 hw9 s4 s0 s1 s2 s3
      refine Lib.hid ?_
      go_wp2_with fail
      go_roundw
      case rel => exact ⟨k + 1, _, by go_num, by omega, C10, O10, K10, Z10⟩
      case measure => simp [intOf]; omega
    · have d : decide (k < l.length) = false := by rw [decide_eq_false_iff_not]; exact hlt
      have B4 : Hid (Below w.heap.size w wr) := B1.out.trans (HB.out.mono B1.out.size)
      have G4 := Lib.hid (G1.out.below HB.out)
      have H4 := Lib.hid (H1.out.below HB.out)
      have U4 : Hid (LstC wr o (mvC z l)) := by
        have := OwnG.lst HO.out
        rw [List.take_of_length_le (by omega)] at this
        exact this
      have hu4 : (mvC z l).length ≤ 40 := by rw [mv_len]; exact hL
      have Z4 := HZ
      have ZA : Hid (w.heap.size < wr.heap.size) := Nat.lt_trans (by have := Z1.out; exact this) HZ.out
      have M1 := Lib.hid (mv_same z l)
      have M2 := Lib.hid (mv_ov z l)
      have M3 := Lib.hid (ov_self l)
      obtain ⟨p0, p1, p2, p3, -⟩ := row_tp RA4.out
      obtain ⟨q0, q1, q2, q3, q4⟩ := row_tp HC.out
      clear hlt HO HB H1 RA1 B1 G1 Z1 HU
      have S := Lib.hid (ksame_any s r c f (.slice A l.length n) l s r c f o (mvC z l) (by omega) wr H4.out U4.out)
      rw [M1.out] at S
      go_wp2_with fail
      refine S.out.mono ?_
      rintro e v5 ⟨rfl, b5⟩
      have B5 : Hid (Below w.heap.size w v5) := B4.out.trans (b5.mono B4.out.size)
      have G5 := Lib.hid (G4.out.below b5)
      have H5 := Lib.hid (H4.out.below b5)
      have U5 := Lib.hid (U4.out.below b5)
      have RA5 : Hid (v5.heap[w.heap.size]? = some (boxT s r c f (.slice A l.length n))) := (b5.block _ ZA.out).trans RA4.out
      have RC5 : Hid (v5.heap[ub]? = some (boxT s r c f o)) := (b5.block _ Z4.out).trans HC.out
      have YA : Hid (w.heap.size < v5.heap.size) := Nat.lt_of_lt_of_le ZA.out b5.size
      have Y4 : Hid (ub < v5.heap.size) := Nat.lt_of_lt_of_le Z4.out b5.size
      clear S b5 B4 G4 H4 U4 ZA Z4 RA4 HC p0 p1 p2 p3 p4 q0 q1 q2 q3 q4
      have ZA := YA
      have Z4 := Y4
      clear YA Y4
      obtain ⟨p0, p1, p2, p3, p4⟩ := row_tp RA5.out
      obtain ⟨q0, q1, q2, q3, q4⟩ := row_tp RC5.out
      have S := Lib.hid (kover_any s r c f (.slice A l.length n) l s r c f o (mvC z l) (by omega) (by omega) v5 H5.out U5.out)
      rw [M2.out.1] at S
      go_wp2_with fail
      refine S.out.mono ?_
      rintro e v6 ⟨rfl, b6⟩
      have B6 : Hid (Below w.heap.size w v6) := B5.out.trans (b6.mono B5.out.size)
      have G6 := Lib.hid (G5.out.below b6)
      have H6 := Lib.hid (H5.out.below b6)
      have U6 := Lib.hid (U5.out.below b6)
      have RA6 : Hid (v6.heap[w.heap.size]? = some (boxT s r c f (.slice A l.length n))) := (b6.block _ ZA.out).trans RA5.out
      have RC6 : Hid (v6.heap[ub]? = some (boxT s r c f o)) := (b6.block _ Z4.out).trans RC5.out
      have YA : Hid (w.heap.size < v6.heap.size) := Nat.lt_of_lt_of_le ZA.out b6.size
      have Y4 : Hid (ub < v6.heap.size) := Nat.lt_of_lt_of_le Z4.out b6.size
      clear S b6 B5 G5 H5 U5 ZA Z4 RA5 RC5 p0 p1 p2 p3 p4 q0 q1 q2 q3 q4
      have ZA := YA
      have Z4 := Y4
      clear YA Y4
      obtain ⟨p0, p1, p2, p3, p4⟩ := row_tp RA6.out
      obtain ⟨q0, q1, q2, q3, q4⟩ := row_tp RC6.out
      have S := Lib.hid (kover_any s r c f o (mvC z l) s r c f (.slice A l.length n) l (by omega) (by omega) v6 U6.out H6.out)
      rw [M2.out.2] at S
      go_wp2_with fail
      refine S.out.mono ?_
      rintro e v7 ⟨rfl, b7⟩
      have B7 : Hid (Below w.heap.size w v7) := B6.out.trans (b7.mono B6.out.size)
      have G7 := Lib.hid (G6.out.below b7)
      have H7 := Lib.hid (H6.out.below b7)
      have U7 := Lib.hid (U6.out.below b7)
      have RA7 : Hid (v7.heap[w.heap.size]? = some (boxT s r c f (.slice A l.length n))) := (b7.block _ ZA.out).trans RA6.out
      have RC7 : Hid (v7.heap[ub]? = some (boxT s r c f o)) := (b7.block _ Z4.out).trans RC6.out
      have YA : Hid (w.heap.size < v7.heap.size) := Nat.lt_of_lt_of_le ZA.out b7.size
      have Y4 : Hid (ub < v7.heap.size) := Nat.lt_of_lt_of_le Z4.out b7.size
      clear S b7 B6 G6 H6 U6 ZA Z4 RA6 RC6 p0 p1 p2 p3 p4 q0 q1 q2 q3 q4
      have ZA := YA
      have Z4 := Y4
      clear YA Y4
      obtain ⟨p0, p1, p2, p3, p4⟩ := row_tp RA7.out
      obtain ⟨q0, q1, q2, q3, q4⟩ := row_tp RC7.out
      have S := Lib.hid (kover_any s r c f (.slice A l.length n) l s r c f (.slice A l.length n) l (by omega) (by omega) v7 H7.out H7.out)
      rw [M3.out] at S
      go_wp2_with fail
      refine S.out.mono ?_
      rintro e v8 ⟨rfl, b8⟩
      have B8 : Hid (Below w.heap.size w v8) := B7.out.trans (b8.mono B7.out.size)
      have G8 := Lib.hid (G7.out.below b8)
      have H8 := Lib.hid (H7.out.below b8)
      have U8 := Lib.hid (U7.out.below b8)
      have RA8 : Hid (v8.heap[w.heap.size]? = some (boxT s r c f (.slice A l.length n))) := (b8.block _ ZA.out).trans RA7.out
      have RC8 : Hid (v8.heap[ub]? = some (boxT s r c f o)) := (b8.block _ Z4.out).trans RC7.out
      have YA : Hid (w.heap.size < v8.heap.size) := Nat.lt_of_lt_of_le ZA.out b8.size
      have Y4 : Hid (ub < v8.heap.size) := Nat.lt_of_lt_of_le Z4.out b8.size
      clear S b8 B7 G7 H7 U7 ZA Z4 RA7 RC7 p0 p1 p2 p3 p4 q0 q1 q2 q3 q4
      have ZA := YA
      have Z4 := Y4
      clear YA Y4
      obtain ⟨p0, p1, p2, p3, p4⟩ := row_tp RA8.out
      obtain ⟨q0, q1, q2, q3, q4⟩ := row_tp RC8.out
      go_wp2_with fail
      refine (ex_any _ G8.out).mono ?_
      rintro e x19 ⟨rfl, y19⟩
      have B19 : Hid (Below w.heap.size w x19) := B8.out.trans (y19.mono B8.out.size)
      clear y19 
      go_wp2_with fail
      go_ret
      exact ⟨rfl, B19.out⟩
end Go.Proofs.YtfbobfejnbhjbaaDoor
