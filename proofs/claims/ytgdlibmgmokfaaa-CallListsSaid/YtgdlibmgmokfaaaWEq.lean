/-
  Equal of package call and of the reference, Same and Duration, Ridable of both, near of the laws: what each call answers. Condition: lists of fewer than 2^40 elements.
-/
import Derived.Test.YtgdlibmgmokfaaaWSt
namespace Go.Proofs.Ytgdlibmgmokfaaa
open Go.RowKit

set_option maxHeartbeats 1000000 in
theorem same_any (u v : Value) (a b : List Int) (ha : a.length ≤ 1099511627776) (w : World) (h1 : LstI w u a) (h2 : LstI w v b) : Calls Try.prog 21 #[u, v] w fun e w' => e = .returned (.bool (decide (a = b))) ∧ ∃ m, w' = w.drewN m := by
  obtain ⟨A, c, rfl, _, _, hx⟩ := h1
  obtain ⟨B, d, rfl, _, _, hy⟩ := h2
  obtain ⟨r, hr⟩ : ∃ r, decide (a = b) = r := ⟨_, rfl⟩
  rw [hr]
  have HR := Lib.hid hr
  clear hr
  by_cases hl : a.length = b.length
  · have g : ((a.length : Int) != (b.length : Int)) = false := neq_false (by omega)
    have g' : (a.length != b.length) = false := by rw [hl]; simp
    have HX := Lib.hid hx
    have HY := Lib.hid hy
    have HL := Lib.hid hl
    clear hx hy hl
    go_enter Try.func21, Try.ntmps21
    go_wp2_with fail
    go_loopw [5] (fun i wr => ∃ k : Nat, i = .int .i64 k ∧ k ≤ a.length ∧ Hid (∀ (j : Nat) x, j < k → a[j]? = some x → b[j]? = some x) ∧ Hid (∃ n, wr = w.drewN n)) (fun i _ => a.length - (intOf i).toNat)
    case atStart => exact ⟨0, rfl, Nat.zero_le _, Lib.hid (fun j x hj => absurd hj (Nat.not_lt_zero _)), Lib.hid ⟨0, rfl⟩⟩
    case round =>
      clear g g'
      obtain ⟨k, rfl, hk, hall, hn⟩ := hrel
      by_cases hlt : k < a.length
      · obtain ⟨b1, o1, rfl, hb1, hc1⟩ := HX.out (by omega)
        obtain ⟨b2, o2, rfl, hb2, hc2⟩ := HY.out (by have := HL.out; omega)
        obtain ⟨x, hx⟩ := at_lt hlt
        obtain ⟨y, hy⟩ := at_lt (l := b) (k := k) (by have := HL.out; omega)
        have hbw := drew_below hn.out
        have m1 := (hbw.cell (p := ⟨b1, o1 + k, none⟩) hb1).trans (hc1 k _ (ints_at a k x hx))
        have m2 := (hbw.cell (p := ⟨b2, o2 + k, none⟩) hb2).trans (hc2 k _ (ints_at b k y hy))
        have gk : (k : Int) < (a.length : Int) := by omega
        have gk2 : (k : Int) < (b.length : Int) := by have := HL.out; omega
        clear hc1 hc2 hbw
        by_cases hxy : x = y
        · have ne : (x != y) = false := neq_false hxy
          have hall2 : Hid (∀ (j : Nat) z, j < k + 1 → a[j]? = some z → b[j]? = some z) := by
            intro j z hj hz
            by_cases hjk : j < k
            · exact hall.out j z hjk hz
            · obtain rfl : j = k := by omega
              rw [hx] at hz
              rw [hy, ← hxy]
              exact hz
          clear hx hy hxy hall HX HY
          go_wp2_with fail
          go_quiet (fail)
          go_wp2_with fail
          go_roundw
          case rel => exact ⟨k + 1, by go_num, by omega, hall2, drew_on hn nq⟩
          case measure => simp [intOf]; omega
        · have ne : (x != y) = true := bne_true hxy
          have R := Lib.hid (same_at k x y hx hy hxy)
          clear hx hy hxy hall HX HY
          go_wp2_with fail
          go_quiet (fail)
          go_wp2_with fail
          go_ret
          exact ⟨ret_bool (by rw [← HR.out, R.out]), (drew_on hn nq).out⟩
      · have R := Lib.hid (same_of HL.out (fun j x hj => hall.out j x (by omega)))
        have d : decide (k < a.length) = false := by rw [decide_eq_false_iff_not]; exact hlt
        clear hall hlt HX HY
        go_wp2_with fail
        go_ret
        exact ⟨ret_bool (by rw [← HR.out, R.out]), hn.out⟩
  · have g : ((a.length : Int) != (b.length : Int)) = true := bne_true (by omega)
    have g' : (a.length != b.length) = true := by simpa using hl
    have R : Hid (r = false) := by
      show _ = _
      rw [← HR.out, decide_eq_false_iff_not]
      exact fun e => hl (by rw [e])
    clear hx hy hl
    go_enter Try.func21, Try.ntmps21
    go_wp2_with fail
    go_ret
    exact ⟨ret_bool R.out.symm, 0, rfl⟩

/-! ### Equal -/
set_option maxRecDepth 100000 in
set_option maxHeartbeats 4000000 in
theorem requal_any (u v : Value) (a b : List Cl) (ha : a.length ≤ 1099511627776) (w : World) (h1 : LstC w u a) (h2 : LstC w v b) : Calls Try.prog 14 #[u, v] w fun e w' => e = .returned (.bool (decide (a = b))) ∧ ∃ m, w' = w.drewN m := by
  have H1 := Lib.hid h1
  have H2 := Lib.hid h2
  obtain ⟨A, c, rfl, -, -, -⟩ := h1
  obtain ⟨B, d, rfl, -, -, -⟩ := h2
  obtain ⟨r, hr⟩ : ∃ r, decide (a = b) = r := ⟨_, rfl⟩
  rw [hr]
  have HR := Lib.hid hr
  clear hr
  by_cases hl : a.length = b.length
  · have g : ((a.length : Int) != (b.length : Int)) = false := neq_false (by omega)
    have g' : (a.length != b.length) = false := by rw [hl]; simp
    have HL := Lib.hid hl
    clear hl
    go_enter Try.func14, Try.ntmps14
    go_wp2_with fail
    go_loopw [5] (fun i wr => ∃ k : Nat, i = .int .i64 k ∧ k ≤ a.length ∧ Hid (eqTo a b k) ∧ Hid (∃ n, wr = w.drewN n)) (fun i _ => a.length - (intOf i).toNat)
    case atStart => exact ⟨0, rfl, Nat.zero_le _, Lib.hid (eqTo_zero _ _), Lib.hid ⟨0, rfl⟩⟩
    case round =>
      clear g g'
      obtain ⟨k, rfl, hk, hall, hn⟩ := hrel
      by_cases hlt : k < a.length
      · obtain ⟨⟨s, t, d, o, q⟩, hx⟩ := at_lt hlt
        obtain ⟨⟨s', t', d', o', q'⟩, hy⟩ := at_lt (l := b) (k := k) (by have := HL.out; omega)
        obtain ⟨b1, f1, rfl, hb1, m0, m1, m2, m3, m4⟩ := five_at (H1.out.below (drew_below hn.out)) hx
        obtain ⟨b2, f2, rfl, hb2, n0, n1, n2, n3, n4⟩ := five_at (H2.out.below (drew_below hn.out)) hy
        have gk : (k : Int) < (a.length : Int) := by omega
        have gk2 : (k : Int) < (b.length : Int) := by have := HL.out; omega
        by_cases hxy : (s, t, d, o, q) = (s', t', d', o', q')
        · have NE := neq_cc s t d o q s' t' d' o' q' false (by rw [decide_eq_true hxy]; rfl)
          have N := Lib.hid (eqTo_next hall.out hx (hy.trans (congrArg some hxy.symm)))
          clear hx hy hxy hall hb1 hb2
          go_wp2_with fail
          go_quiet (fail)
          go_wp2_with fail
          go_roundw
          case rel => exact ⟨k + 1, by go_num, by omega, N, drew_on hn nq⟩
          case measure => simp [intOf]; omega
        · have NE := neq_cc s t d o q s' t' d' o' q' true (by rw [decide_eq_false hxy]; rfl)
          have R := Lib.hid (eqTo_not hx hy hxy)
          clear hx hy hxy hall hb1 hb2
          go_wp2_with fail
          go_quiet (fail)
          go_wp2_with fail
          go_ret
          exact ⟨ret_bool (by rw [← HR.out, R.out]), (drew_on hn nq).out⟩
      · have R := Lib.hid (eqTo_all hall.out (by omega) (by have := HL.out; omega))
        have d : decide (k < a.length) = false := by rw [decide_eq_false_iff_not]; exact hlt
        clear hall hlt
        go_wp2_with fail
        go_ret
        exact ⟨ret_bool (by rw [← HR.out, R.out]), hn.out⟩
  · have g : ((a.length : Int) != (b.length : Int)) = true := bne_true (by omega)
    have g' : (a.length != b.length) = true := by simpa using hl
    have R : Hid (r = false) := by
      show _ = _
      rw [← HR.out, eqC_len hl]
    clear hl
    go_enter Try.func14, Try.ntmps14
    go_wp2_with fail
    go_ret
    exact ⟨ret_bool R.out.symm, 0, rfl⟩
set_option maxRecDepth 100000 in
set_option maxHeartbeats 4000000 in
theorem sequal_any (u v : Value) (a b : List Cl) (ha : a.length ≤ 1099511627776) (w : World) (h1 : LstC w u a) (h2 : LstC w v b) : Calls Try.prog 31 #[u, v] w fun e w' => e = .returned (.bool (decide (a = b))) ∧ ∃ m, w' = w.drewN m := by
  have H1 := Lib.hid h1
  have H2 := Lib.hid h2
  obtain ⟨A, c, rfl, -, -, -⟩ := h1
  obtain ⟨B, d, rfl, -, -, -⟩ := h2
  obtain ⟨r, hr⟩ : ∃ r, decide (a = b) = r := ⟨_, rfl⟩
  rw [hr]
  have HR := Lib.hid hr
  clear hr
  by_cases hl : a.length = b.length
  · have g : ((a.length : Int) != (b.length : Int)) = false := neq_false (by omega)
    have g' : (a.length != b.length) = false := by rw [hl]; simp
    have HL := Lib.hid hl
    clear hl
    go_enter Try.func31, Try.ntmps31
    go_wp2_with fail
    go_loopw [13] (fun i wr => ∃ k : Nat, i = .int .i64 k ∧ k ≤ a.length ∧ Hid (eqTo a b k) ∧ Hid (∃ n, wr = w.drewN n)) (fun i _ => a.length - (intOf i).toNat)
    case atStart => exact ⟨0, rfl, Nat.zero_le _, Lib.hid (eqTo_zero _ _), Lib.hid ⟨0, rfl⟩⟩
    case round =>
      clear g g'
      obtain ⟨k, rfl, hk, hall, hn⟩ := hrel
      by_cases hlt : k < a.length
      · obtain ⟨⟨s, t, d, o, q⟩, hx⟩ := at_lt hlt
        obtain ⟨⟨s', t', d', o', q'⟩, hy⟩ := at_lt (l := b) (k := k) (by have := HL.out; omega)
        obtain ⟨b1, f1, rfl, hb1, m0, m1, m2, m3, m4⟩ := five_at (H1.out.below (drew_below hn.out)) hx
        obtain ⟨b2, f2, rfl, hb2, n0, n1, n2, n3, n4⟩ := five_at (H2.out.below (drew_below hn.out)) hy
        have gk : (k : Int) < (a.length : Int) := by omega
        have gk2 : (k : Int) < (b.length : Int) := by have := HL.out; omega
        by_cases hxy : (s, t, d, o, q) = (s', t', d', o', q')
        · have NE := neq_cc s t d o q s' t' d' o' q' false (by rw [decide_eq_true hxy]; rfl)
          have N := Lib.hid (eqTo_next hall.out hx (hy.trans (congrArg some hxy.symm)))
          clear hx hy hxy hall hb1 hb2
          go_wp2_with fail
          go_quiet (fail)
          go_wp2_with fail
          go_roundw
          case rel => exact ⟨k + 1, by go_num, by omega, N, drew_on hn nq⟩
          case measure => simp [intOf]; omega
        · have NE := neq_cc s t d o q s' t' d' o' q' true (by rw [decide_eq_false hxy]; rfl)
          have R := Lib.hid (eqTo_not hx hy hxy)
          clear hx hy hxy hall hb1 hb2
          go_wp2_with fail
          go_quiet (fail)
          go_wp2_with fail
          go_ret
          exact ⟨ret_bool (by rw [← HR.out, R.out]), (drew_on hn nq).out⟩
      · have R := Lib.hid (eqTo_all hall.out (by omega) (by have := HL.out; omega))
        have d : decide (k < a.length) = false := by rw [decide_eq_false_iff_not]; exact hlt
        clear hall hlt
        go_wp2_with fail
        go_ret
        exact ⟨ret_bool (by rw [← HR.out, R.out]), hn.out⟩
  · have g : ((a.length : Int) != (b.length : Int)) = true := bne_true (by omega)
    have g' : (a.length != b.length) = true := by simpa using hl
    have R : Hid (r = false) := by
      show _ = _
      rw [← HR.out, eqC_len hl]
    clear hl
    go_enter Try.func31, Try.ntmps31
    go_wp2_with fail
    go_ret
    exact ⟨ret_bool R.out.symm, 0, rfl⟩
theorem kequal_any (u v : Value) (a b : List Cl) (ha : a.length ≤ 1099511627776) (w : World) (h1 : LstC w u a) (h2 : LstC w v b) : Calls Try.prog 26 #[u, v] w fun e w' => e = .returned (.bool (decide (a = b))) ∧ ∃ m, w' = w.drewN m := by
  have E := Lib.hid (sequal_any u v a b ha w h1 h2)
  clear h1 h2 ha
  go_enter Try.func26, Try.ntmps26
  go_wp2_with fail
  refine E.out.mono ?_
  rintro e w' ⟨rfl, n, rfl⟩
  go_wp2_with fail
  go_ret
  exact ⟨rfl, n, rfl⟩

/-! ### Duration -/
set_option maxRecDepth 100000 in
set_option maxHeartbeats 4000000 in
theorem kdur_any (v : Value) (l : List Cl) (hl : l.length ≤ 9223372036854775807) (w : World) (h : LstC w v l) : Calls Try.prog 24 #[v] w fun e w' => e = .returned (.int .i64 (durC l)) ∧ ∃ m, w' = w.drewN m := by
  by_cases h2 : l.length < 2
  · have R := Lib.hid (durC_few h2)
    obtain ⟨A, c, rfl, -, -, -⟩ := h
    have g : (l.length : Int) < 2 := by omega
    clear h2
    go_enter Try.func24, Try.ntmps24
    go_wp2_with fail
    go_ret
    exact ⟨ret_int R.out.symm, 0, rfl⟩
  · obtain ⟨⟨s, a, d, o, u⟩, hx⟩ := at_lt (show 0 < l.length by omega)
    obtain ⟨m, hm⟩ : ∃ m, l.length - 1 = m := ⟨_, rfl⟩
    obtain ⟨⟨s1, a1, d1, o1, u1⟩, hy⟩ := at_lt (show m < l.length by omega)
    have R := Lib.hid (durC_two h2 hx (by rw [hm]; exact hy))
    obtain ⟨A, c, rfl, -, -, -⟩ := id h
    obtain ⟨b, f, rfl, hb, r0, r1, r2, -, -⟩ := five_at h hx
    obtain ⟨b', f', hA, hb', q0, q1, q2, -, -⟩ := five_at h hy
    cases hA
    rw [Nat.zero_mul, Nat.add_zero] at r0 r1 r2
    have g : decide ((l.length : Int) < 2) = false := by rw [decide_eq_false_iff_not]; omega
    have gm : (l.length : Int) - 1 = (m : Int) := by omega
    have gl : (m : Int) < (l.length : Int) := by omega
    have g0 : (0 : Int) < (l.length : Int) := by omega
    have g0' : 0 < l.length := by omega
    clear h2 hx hy h hb hb' hm r0 r1 q0 q2
    go_enter Try.func24, Try.ntmps24
    go_wp2_with fail
    go_quiet (fail)
    go_wp2_with fail
    go_ret
    exact ⟨ret_int R.out.symm, nq, rfl⟩
set_option maxRecDepth 100000 in
set_option maxHeartbeats 4000000 in
theorem rdur_any (v : Value) (l : List Cl) (hl : l.length ≤ 9223372036854775807) (w : World) (h : LstC w v l) : Calls Try.prog 25 #[v] w fun e w' => e = .returned (.int .i64 (durC l)) ∧ ∃ m, w' = w.drewN m := by
  by_cases h2 : l.length < 2
  · have R := Lib.hid (durC_few h2)
    obtain ⟨A, c, rfl, -, -, -⟩ := h
    have g : (l.length : Int) < 2 := by omega
    clear h2
    go_enter Try.func25, Try.ntmps25
    go_wp2_with fail
    go_ret
    exact ⟨ret_int R.out.symm, 0, rfl⟩
  · obtain ⟨⟨s, a, d, o, u⟩, hx⟩ := at_lt (show 0 < l.length by omega)
    obtain ⟨m, hm⟩ : ∃ m, l.length - 1 = m := ⟨_, rfl⟩
    obtain ⟨⟨s1, a1, d1, o1, u1⟩, hy⟩ := at_lt (show m < l.length by omega)
    have R := Lib.hid (durC_two h2 hx (by rw [hm]; exact hy))
    obtain ⟨A, c, rfl, -, -, -⟩ := id h
    obtain ⟨b, f, rfl, hb, r0, r1, r2, -, -⟩ := five_at h hx
    obtain ⟨b', f', hA, hb', q0, q1, q2, -, -⟩ := five_at h hy
    cases hA
    rw [Nat.zero_mul, Nat.add_zero] at r0 r1 r2
    have g : decide ((l.length : Int) < 2) = false := by rw [decide_eq_false_iff_not]; omega
    have gm : (l.length : Int) - 1 = (m : Int) := by omega
    have gl : (m : Int) < (l.length : Int) := by omega
    have g0 : (0 : Int) < (l.length : Int) := by omega
    have g0' : 0 < l.length := by omega
    clear h2 hx hy h hb hb' hm r0 r1 q0 q2
    go_enter Try.func25, Try.ntmps25
    go_wp2_with fail
    go_quiet (fail)
    go_wp2_with fail
    go_ret
    exact ⟨ret_int R.out.symm, nq, rfl⟩

/-! ### Ridable -/
set_option maxRecDepth 100000 in
set_option maxHeartbeats 4000000 in
theorem krid_any (v : Value) (l : List Cl) (i k : Int) (w : World) (h : LstC w v l) : Calls Try.prog 17 #[v, .int .i64 i, .int .i64 k] w fun e w' => e = .returned (.bool (rdB l i k)) ∧ w = w' := by
  obtain ⟨A, c, rfl, -, -, -⟩ := id h
  by_cases h0 : 0 ≤ i
  · by_cases h1 : i < k
    · by_cases h2 : k < (l.length : Int)
      · obtain ⟨n, rfl⟩ := Int.eq_ofNat_of_zero_le h0
        obtain ⟨m, rfl⟩ := Int.eq_ofNat_of_zero_le (show 0 ≤ k by omega)
        obtain ⟨⟨s, a, d, o, u⟩, hx⟩ := at_lt (show n < l.length by omega)
        obtain ⟨⟨s1, a1, d1, o1, u1⟩, hy⟩ := at_lt (show m < l.length by omega)
        have R := Lib.hid (rdB_in (show n < m by omega) hx hy)
        obtain ⟨b, f, rfl, hb, -, -, -, r3, -⟩ := five_at h hx
        obtain ⟨b', f', hA, hb', -, -, -, -, q4⟩ := five_at h hy
        cases hA
        have g1 : n < m := by omega
        have g2 : m < l.length := by omega
        have g3 : (n : Int) < (l.length : Int) := by omega
        clear h0 hx hy h hb hb'
        cases o
        · go_enter Try.func17, Try.ntmps17
          go_wp2_with fail
          go_ret
          exact ⟨ret_bool (by rw [R.out]; rfl), rfl⟩
        · go_enter Try.func17, Try.ntmps17
          go_wp2_with fail
          go_ret
          exact ⟨ret_bool (by rw [R.out]; rfl), rfl⟩
      · have R := Lib.hid (rdB_far (i := i) h2)
        have d : decide (k < (l.length : Int)) = false := decide_eq_false h2
        clear h2 h
        go_enter Try.func17, Try.ntmps17
        go_wp2_with fail
        go_ret
        exact ⟨ret_bool R.out.symm, rfl⟩
    · have R := Lib.hid (rdB_order (l := l) h1)
      have d : decide (i < k) = false := decide_eq_false h1
      clear h1 h
      go_enter Try.func17, Try.ntmps17
      go_wp2_with fail
      go_ret
      exact ⟨ret_bool R.out.symm, rfl⟩
  · have R := Lib.hid (rdB_low (l := l) (k := k) h0)
    have d : decide (0 ≤ i) = false := decide_eq_false h0
    clear h0 h
    go_enter Try.func17, Try.ntmps17
    go_wp2_with fail
    go_ret
    exact ⟨ret_bool R.out.symm, rfl⟩
set_option maxRecDepth 100000 in
set_option maxHeartbeats 4000000 in
theorem rrid_any (v : Value) (l : List Cl) (i k : Int) (w : World) (h : LstC w v l) : Calls Try.prog 18 #[v, .int .i64 i, .int .i64 k] w fun e w' => e = .returned (.bool (rdB l i k)) ∧ w = w' := by
  obtain ⟨A, c, rfl, -, -, -⟩ := id h
  by_cases h0 : 0 ≤ i
  · by_cases h1 : i < k
    · by_cases h2 : k < (l.length : Int)
      · obtain ⟨n, rfl⟩ := Int.eq_ofNat_of_zero_le h0
        obtain ⟨m, rfl⟩ := Int.eq_ofNat_of_zero_le (show 0 ≤ k by omega)
        obtain ⟨⟨s, a, d, o, u⟩, hx⟩ := at_lt (show n < l.length by omega)
        obtain ⟨⟨s1, a1, d1, o1, u1⟩, hy⟩ := at_lt (show m < l.length by omega)
        have R := Lib.hid (rdB_in (show n < m by omega) hx hy)
        obtain ⟨b, f, rfl, hb, -, -, -, r3, -⟩ := five_at h hx
        obtain ⟨b', f', hA, hb', -, -, -, -, q4⟩ := five_at h hy
        cases hA
        have g1 : n < m := by omega
        have g2 : m < l.length := by omega
        have g3 : (n : Int) < (l.length : Int) := by omega
        clear h0 hx hy h hb hb'
        cases o
        · go_enter Try.func18, Try.ntmps18
          go_wp2_with fail
          go_ret
          exact ⟨ret_bool (by rw [R.out]; rfl), rfl⟩
        · go_enter Try.func18, Try.ntmps18
          go_wp2_with fail
          go_ret
          exact ⟨ret_bool (by rw [R.out]; rfl), rfl⟩
      · have R := Lib.hid (rdB_far (i := i) h2)
        have d : decide (k < (l.length : Int)) = false := decide_eq_false h2
        clear h2 h
        go_enter Try.func18, Try.ntmps18
        go_wp2_with fail
        go_ret
        exact ⟨ret_bool R.out.symm, rfl⟩
    · have R := Lib.hid (rdB_order (l := l) h1)
      have d : decide (i < k) = false := decide_eq_false h1
      clear h1 h
      go_enter Try.func18, Try.ntmps18
      go_wp2_with fail
      go_ret
      exact ⟨ret_bool R.out.symm, rfl⟩
  · have R := Lib.hid (rdB_low (l := l) (k := k) h0)
    have d : decide (0 ≤ i) = false := decide_eq_false h0
    clear h0 h
    go_enter Try.func18, Try.ntmps18
    go_wp2_with fail
    go_ret
    exact ⟨ret_bool R.out.symm, rfl⟩

/-! ### near -/
/-- Near 0. -/
def nearI (n : Int) : Bool := decide (-1099511627776 ≤ n) && decide (n ≤ 1099511627776)
theorem nearI_is {n : Int} (h : nearI n = true) : -1099511627776 ≤ n ∧ n ≤ 1099511627776 := by
  unfold nearI at h
  rw [Bool.and_eq_true] at h
  exact ⟨of_decide_eq_true h.1, of_decide_eq_true h.2⟩
theorem near_any (n : Int) (w : World) : Calls Try.prog 27 #[.int .i64 n] w fun e w' => e = .returned (.bool (nearI n)) ∧ w = w' := by
  by_cases h0 : -1099511627776 ≤ n
  · have R := Lib.hid (show nearI n = decide (n ≤ 1099511627776) by unfold nearI; rw [decide_eq_true h0]; rfl)
    go_enter Try.func27, Try.ntmps27
    go_wp2_with fail
    go_ret
    exact ⟨ret_bool R.out.symm, rfl⟩
  · have R := Lib.hid (show nearI n = false by unfold nearI; rw [decide_eq_false h0]; rfl)
    have d : decide (-1099511627776 ≤ n) = false := decide_eq_false h0
    clear h0
    go_enter Try.func27, Try.ntmps27
    go_wp2_with fail
    go_ret
    exact ⟨ret_bool R.out.symm, rfl⟩
end Go.Proofs.Ytgdlibmgmokfaaa
