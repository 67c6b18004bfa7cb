/-
  Times shifted as a departure is to a start, calls that fit a start, calls started: isTime, fits, fitsAll, Calls of package frequency, Shift of its reference: what each call answers. Condition: times of 64 bits, lists of at most 1000000 calls.
-/
import Derived.Test.YtahnaidkobodaaaHzS
import Derived.Test.YtahnaidkobodaaaWShf
namespace Go.Proofs.Ytahnaidkobodaaa
open Go.RowKit

set_option maxRecDepth 100000 in
set_option maxHeartbeats 4000000 in
theorem istime_any (t d st : Int) (h0 : 0 ≤ st) (h1 : st ≤ 172800) (ht : -9223372036854775808 ≤ t ∧ t ≤ 9223372036854775807) (hd : -9223372036854775808 ≤ d ∧ d ≤ 9223372036854775807) (w : World) : Calls Try.prog 44 #[.int .i64 t, .int .i64 d, .int .i64 st] w fun e w' => e = .returned (.bool (inT d st t)) ∧ w = w' := by
  by_cases h : t < d
  · go_enter Try.func44, Try.ntmps44
    go_wp2_with fail
    go_ret
    exact ⟨ret_bool (by rw [IntKind.wrap_u64, IntKind.wrap_u64, IntKind.wrap_u64]; unfold inT; exact decide_eq_decide.2 (by omega)), rfl⟩
  · have g : decide (t < d) = false := decide_eq_false h
    go_enter Try.func44, Try.ntmps44
    go_wp2_with fail
    go_ret
    exact ⟨ret_bool (by rw [IntKind.wrap_u64, IntKind.wrap_u64, IntKind.wrap_u64]; unfold inT; exact decide_eq_decide.2 (by omega)), rfl⟩
theorem far_u64 {x y : Int} (h : y ≤ x) (hx : -9223372036854775808 ≤ x ∧ x ≤ 9223372036854775807) (hy : -9223372036854775808 ≤ y ∧ y ≤ 9223372036854775807) : IntKind.u64.wrap (IntKind.u64.wrap x - IntKind.u64.wrap y) = x - y := by
  rw [IntKind.wrap_u64, IntKind.wrap_u64, IntKind.wrap_u64]
  omega
theorem ret_yes {a b : Int} (h : a = b) : Ending.returned (.tuple #[.int .i64 a, .bool true]) = .returned (.tuple #[.int .i64 b, .bool true]) := by rw [h]
set_option maxRecDepth 100000 in
set_option maxHeartbeats 4000000 in
theorem rshf_yes (t d st : Int) (hs : 0 ≤ st ∧ st ≤ 172800) (hi : 0 ≤ t - d + st ∧ t - d + st ≤ 172800) (ht : -9223372036854775808 ≤ t ∧ t ≤ 9223372036854775807) (hd : -9223372036854775808 ≤ d ∧ d ≤ 9223372036854775807) (w : World) : Calls Try.prog 35 #[.int .i64 t, .int .i64 st, .int .i64 d] w fun e w' => e = .returned (.tuple #[.int .i64 (t - d + st), .bool true]) ∧ w = w' := by
  have n0 : ¬ st < 0 := by omega
  have n1 : ¬ 172800 < st := by omega
  have g0 : decide (st < 0) = false := decide_eq_false n0
  have g1 : decide (172800 < st) = false := decide_eq_false n1
  by_cases h : d ≤ t
  · have U := far_u64 h ht hd
    have g3 : decide (172800 < IntKind.u64.wrap (IntKind.u64.wrap t - IntKind.u64.wrap d)) = false := by rw [U]; exact decide_eq_false (by omega)
    obtain ⟨z, hz⟩ : ∃ z, z = t - d := ⟨_, rfl⟩
    have z0 : -172800 ≤ z := by omega
    have z1 : z ≤ 172800 := by omega
    have W1 : wrap64 (t - d) = z := by unfold wrap64; omega
    have y0 : 0 ≤ st + z := by omega
    have y1 : st + z ≤ 172800 := by omega
    have HZ := Lib.hid hz
    clear hz U hi n0 n1 hs
    go_enter Try.func35, Try.ntmps35
    go_wp2_with fail
    go_ret2
    exact ⟨ret_yes (by have := HZ.out; omega), rfl⟩
  have U := far_u64 (show t ≤ d by omega) hd ht
  have g2 : decide (d ≤ t) = false := decide_eq_false h
  have g3 : decide (172800 < IntKind.u64.wrap (IntKind.u64.wrap d - IntKind.u64.wrap t)) = false := by rw [U]; exact decide_eq_false (by omega)
  obtain ⟨z, hz⟩ : ∃ z, z = t - d := ⟨_, rfl⟩
  have z0 : -172800 ≤ z := by omega
  have z1 : z ≤ 172800 := by omega
  have W1 : wrap64 (t - d) = z := by unfold wrap64; omega
  have y0 : 0 ≤ st + z := by omega
  have y1 : st + z ≤ 172800 := by omega
  have HZ := Lib.hid hz
  clear hz U hi n0 n1 hs
  go_enter Try.func35, Try.ntmps35
  go_wp2_with fail
  go_ret2
  exact ⟨ret_yes (by have := HZ.out; omega), rfl⟩
set_option maxRecDepth 100000 in
set_option maxHeartbeats 4000000 in
theorem rshf_no (t d st : Int)  (hi : ¬ ((0 ≤ st ∧ st ≤ 172800) ∧ 0 ≤ t - d + st ∧ t - d + st ≤ 172800)) (ht : -9223372036854775808 ≤ t ∧ t ≤ 9223372036854775807) (hd : -9223372036854775808 ≤ d ∧ d ≤ 9223372036854775807) (w : World) : Calls Try.prog 35 #[.int .i64 t, .int .i64 st, .int .i64 d] w fun e w' => (∃ n : Int, e = .returned (.tuple #[.int .i64 n, .bool false])) ∧ w = w' := by
  by_cases n0 : st < 0
  · go_enter Try.func35, Try.ntmps35
    go_wp2_with fail
    go_ret2
    exact ⟨⟨_, rfl⟩, rfl⟩
  by_cases n1 : 172800 < st
  · have g0 : decide (st < 0) = false := decide_eq_false n0
    go_enter Try.func35, Try.ntmps35
    go_wp2_with fail
    go_ret2
    exact ⟨⟨_, rfl⟩, rfl⟩
  have g0 : decide (st < 0) = false := decide_eq_false n0
  have g1 : decide (172800 < st) = false := decide_eq_false n1
  by_cases h : d ≤ t
  · have U := far_u64 h ht hd
    by_cases n2 : 172800 < t - d
    · have g3 : decide (172800 < IntKind.u64.wrap (IntKind.u64.wrap t - IntKind.u64.wrap d)) = true := by rw [U]; exact decide_eq_true n2
      clear n2 U hi
      go_enter Try.func35, Try.ntmps35
      go_wp2_with fail
      go_ret2
      exact ⟨⟨_, rfl⟩, rfl⟩
    have g3 : decide (172800 < IntKind.u64.wrap (IntKind.u64.wrap t - IntKind.u64.wrap d)) = false := by rw [U]; exact decide_eq_false (by omega)
    obtain ⟨z, hz⟩ : ∃ z, z = t - d := ⟨_, rfl⟩
    have z0 : -172800 ≤ z := by omega
    have z1 : z ≤ 172800 := by omega
    have W1 : wrap64 (t - d) = z := by unfold wrap64; omega
    by_cases n3 : st + z < 0
    · have g4 : decide (0 ≤ st + z) = false := decide_eq_false (by omega)
      clear hz U hi n2 n3
      go_enter Try.func35, Try.ntmps35
      go_wp2_with fail
      go_ret2
      exact ⟨⟨_, rfl⟩, rfl⟩
    have y0 : 0 ≤ st + z := by omega
    have g5 : decide (st + z ≤ 172800) = false := decide_eq_false (by omega)
    clear hz U hi n2 n3
    go_enter Try.func35, Try.ntmps35
    go_wp2_with fail
    go_ret2
    exact ⟨⟨_, rfl⟩, rfl⟩
  have U := far_u64 (show t ≤ d by omega) hd ht
  have g2 : decide (d ≤ t) = false := decide_eq_false h
  by_cases n2 : 172800 < d - t
  · have g3 : decide (172800 < IntKind.u64.wrap (IntKind.u64.wrap d - IntKind.u64.wrap t)) = true := by rw [U]; exact decide_eq_true n2
    clear n2 U hi
    go_enter Try.func35, Try.ntmps35
    go_wp2_with fail
    go_ret2
    exact ⟨⟨_, rfl⟩, rfl⟩
  have g3 : decide (172800 < IntKind.u64.wrap (IntKind.u64.wrap d - IntKind.u64.wrap t)) = false := by rw [U]; exact decide_eq_false (by omega)
  obtain ⟨z, hz⟩ : ∃ z, z = t - d := ⟨_, rfl⟩
  have z0 : -172800 ≤ z := by omega
  have z1 : z ≤ 172800 := by omega
  have W1 : wrap64 (t - d) = z := by unfold wrap64; omega
  by_cases n3 : st + z < 0
  · have g4 : decide (0 ≤ st + z) = false := decide_eq_false (by omega)
    clear hz U hi n2 n3
    go_enter Try.func35, Try.ntmps35
    go_wp2_with fail
    go_ret2
    exact ⟨⟨_, rfl⟩, rfl⟩
  have y0 : 0 ≤ st + z := by omega
  have g5 : decide (st + z ≤ 172800) = false := decide_eq_false (by omega)
  clear hz U hi n2 n3
  go_enter Try.func35, Try.ntmps35
  go_wp2_with fail
  go_ret2
  exact ⟨⟨_, rfl⟩, rfl⟩
/-! ### Calls that fit a start -/
set_option maxRecDepth 100000 in
set_option maxHeartbeats 4000000 in
theorem kfits_any (v : Value) (l : List Cl) (hl : l.length ≤ 1000000) (hs : OkS l) (st : Int) (w : World) (h : LstC w v l) : Calls Try.prog 33 #[v, .int .i64 st] w fun e w' => e = .returned (.bool (fitC l st)) ∧ Below w.heap.size w w' := by
  have H := Lib.hid h
  obtain ⟨A, n, rfl, -, -, -⟩ := h
  by_cases n0 : st < 0
  · have R := Lib.hid (fit_out (l := l) (st := st) (by omega))
    clear hs hl
    go_enter Try.func33, Try.ntmps33
    go_wp2_with fail
    go_ret
    exact ⟨ret_bool R.out.symm, Below.refl _ _⟩
  by_cases n1 : 172800 < st
  · have g0 : decide (st < 0) = false := decide_eq_false n0
    have R := Lib.hid (fit_out (l := l) (st := st) (by omega))
    clear hs hl
    go_enter Try.func33, Try.ntmps33
    go_wp2_with fail
    go_ret
    exact ⟨ret_bool R.out.symm, Below.refl _ _⟩
  have g0 : decide (st < 0) = false := decide_eq_false n0
  have g1 : decide (172800 < st) = false := decide_eq_false n1
  have HS := Lib.hid hs
  have z0 : 0 ≤ st := by omega
  have z1 : st ≤ 172800 := by omega
  clear hs
  obtain ⟨R, hR⟩ : ∃ R, fitC l st = R := ⟨_, rfl⟩
  rw [hR]
  have HR := Lib.hid hR
  clear hR
  go_enter Try.func33, Try.ntmps33
  go_wp2_with fail
  go_loopw [16] (fun i wr => ∃ k : Nat, i = .int .i64 k ∧ k ≤ l.length ∧ Hid (∀ (j : Nat) x, j < k → l[j]? = some x → fitX (dpF l) st x = true) ∧ Hid (Below w.heap.size w wr)) (fun i _ => l.length - (intOf i).toNat)
  case atStart => exact ⟨0, rfl, Nat.zero_le _, Lib.hid (fun j x hj => absurd hj (Nat.not_lt_zero _)), Lib.hid (Below.refl _ _)⟩
  case round =>
    clear g0 g1 n0 n1
    obtain ⟨k, rfl, hk, hall, HB⟩ := hrel
    by_cases hlt : k < l.length
    · obtain ⟨⟨x, xa, xd, o, u⟩, hx⟩ := at_lt hlt
      obtain ⟨⟨y, ya, yd, yo, yu⟩, hy⟩ := at_lt (l := l) (k := 0) (by omega)
      have HW := Lib.hid (H.out.below HB.out)
      obtain ⟨b, g', rfl, hb, r0, r1, r2, r3, r4⟩ := five_at HW.out hx
      have gk : (k : Int) < (l.length : Int) := by omega
      have gl : (0 : Int) < (l.length : Int) := by omega
      obtain ⟨w8, hw8⟩ : ∃ W, wr.alloc (.cells #[.int .i64 x, .int .i64 xa, .int .i64 xd, .bool o, .bool u] 46 (0, 0)) = W := ⟨_, rfl⟩
      obtain ⟨b8, q0, q1, q2, q3, q4, s8⟩ := box_cc hw8
      obtain ⟨b', f', e', hb', m0, m1, m2, m3, m4⟩ := five_at (HW.out.below b8) hy
      cases e'
      rw [Nat.zero_mul, Nat.add_zero] at m0 m1 m2 m3 m4
      have hd : dpF l = yd := dp_at hy
      have ox := HS.out.all hx
      have oy := HS.out.all hy
      have B8 : Hid (Below w.heap.size w w8) := HB.out.trans (b8.mono HB.out.size)
      have C1 := Lib.hid (istime_any xa yd st z0 z1 ox.2.1 oy.2.2 w8)
      have C2 := Lib.hid (istime_any xd yd st z0 z1 ox.2.2 oy.2.2 w8)
      rw [hd] at hall
      clear b8 hb hb' HB HW ox oy
      cases c1 : inT yd st xa with
      | false =>
        rw [c1] at C1
        have N := Lib.hid (fit_stop hx (by rw [hd]; exact fitX_arr c1))
        clear hx hy hd hall c1
        go_wp2_with fail
        refine C1.out.mono ?_
        rintro e w' ⟨rfl, rfl⟩
        go_wp2_with fail
        go_ret
        exact ⟨ret_bool (by rw [← HR.out, N.out]), B8.out⟩
      | true =>
        rw [c1] at C1
        cases c2 : inT yd st xd with
        | false =>
          rw [c2] at C2
          have N := Lib.hid (fit_stop hx (by rw [hd]; exact fitX_dep c2))
          clear hx hy hd hall c1 c2
          go_wp2_with fail
          refine C1.out.mono ?_
          rintro e w' ⟨rfl, rfl⟩
          go_wp2_with fail
          refine C2.out.mono ?_
          rintro e w' ⟨rfl, rfl⟩
          go_wp2_with fail
          go_ret
          exact ⟨ret_bool (by rw [← HR.out, N.out]), B8.out⟩
        | true =>
          rw [c2] at C2
          have N : Hid (∀ (j : Nat) x, j < k + 1 → l[j]? = some x → fitX (dpF l) st x = true) := by
            intro j z hj hz
            by_cases hjk : j < k
            · rw [hd]; exact hall.out j z hjk hz
            · obtain rfl : j = k := by omega
              rw [hx] at hz
              obtain rfl := Option.some.inj hz
              rw [hd]
              exact fitX_yes c1 c2
          clear hx hy hd hall c1 c2
          go_wp2_with fail
          refine C1.out.mono ?_
          rintro e w' ⟨rfl, rfl⟩
          go_wp2_with fail
          refine C2.out.mono ?_
          rintro e w' ⟨rfl, rfl⟩
          go_wp2_with fail
          go_roundw
          case rel => exact ⟨k + 1, by go_num, by omega, N, B8⟩
          case measure => simp [intOf]; omega
    · have N := Lib.hid (fit_done (l := l) ⟨z0, z1⟩ (fun j x hj => hall.out j x (by have := (List.getElem?_eq_some_iff.1 hj).1; omega) hj))
      have d : decide (k < l.length) = false := by rw [decide_eq_false_iff_not]; exact hlt
      clear hall hlt
      go_wp2_with fail
      go_ret
      exact ⟨ret_bool (by rw [← HR.out, N.out]), HB.out⟩
end Go.Proofs.Ytahnaidkobodaaa
