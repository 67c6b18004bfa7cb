/-
  The reference's Check of lists of calls: what it answers; nothing that existed before the call has changed behind it. Condition: lists of fewer than 2^63 calls.
-/
import Derived.Test.YtgdlibmgmokfaaaWSt
namespace Go.Proofs.Ytgdlibmgmokfaaa
open Go.RowKit

set_option maxRecDepth 100000 in
set_option maxHeartbeats 8000000 in
theorem rcheck_any (v : Value) (l : List Cl) (hl : l.length ≤ 9223372036854775807) (st lo hi : Int) (w : World) (h : LstC w v l) : Calls Try.prog 13 #[v, .int .i64 st, .int .i64 lo, .int .i64 hi] w fun e w' => e = .returned (.tuple #[.int .i64 ((chkC st lo hi l).1), .int .i64 ((chkC st lo hi l).2)]) ∧ Below w.heap.size w w' := by
  have H := Lib.hid h
  obtain ⟨A, c, rfl, -, -, -⟩ := h
  by_cases h2 : l.length < 2
  · have R := Lib.hid (chkC_few (st := st) (lo := lo) (hi := hi) h2)
    have g : (l.length : Int) < 2 := by omega
    generalize chkC st lo hi l = q at R ⊢
    clear h2
    go_enter Try.func13, Try.ntmps13
    go_wp2_with fail
    go_ret2
    exact ⟨ret_chk (by rw [R.out]) (by rw [R.out]), Below.refl _ _⟩
  have g2 : decide ((l.length : Int) < 2) = false := by rw [decide_eq_false_iff_not]; omega
  by_cases h32 : 32 < l.length
  · have R := Lib.hid (chkC_many (st := st) (lo := lo) (hi := hi) h32)
    have g : (32 : Int) < (l.length : Int) := by omega
    generalize chkC st lo hi l = q at R ⊢
    clear h32 h2
    go_enter Try.func13, Try.ntmps13
    go_wp2_with fail
    go_ret2
    exact ⟨ret_chk (by rw [R.out]) (by rw [R.out]), Below.refl _ _⟩
  have g : decide ((32 : Int) < (l.length : Int)) = false := by rw [decide_eq_false_iff_not]; omega
  have ST := Lib.hid (chkC_start (st := st) (lo := lo) (hi := hi) h2 h32)
  obtain ⟨q, hq⟩ : ∃ q, chkC st lo hi l = q := ⟨_, rfl⟩
  rw [hq]
  rw [hq] at ST
  clear h32 hq h2
  go_enter Try.func13, Try.ntmps13
  go_wp2_with fail
  go_loopw [10] (fun i wr => ∃ k : Nat, i = .int .i64 k ∧ k ≤ l.length ∧ Hid (q = ckF st lo hi (prvC l k) k (l.drop k)) ∧ Hid (Below w.heap.size w wr)) (fun i _ => l.length - (intOf i).toNat)
  case atStart => exact ⟨0, rfl, Nat.zero_le _, ST, Lib.hid (Below.refl _ _)⟩
  case round =>
    clear g g2 ST
    obtain ⟨k, rfl, hk, hz, HB⟩ := hrel
    by_cases hlt : k < l.length
    · obtain ⟨⟨s, a, d, o, u⟩, hx⟩ := at_lt hlt
      obtain ⟨b, f, rfl, hb, r0, r1, r2, r3, r4⟩ := five_at (H.out.below HB.out) hx
      have gk : (k : Int) < (l.length : Int) := by omega
      obtain ⟨w7, hw7⟩ : ∃ W, wr.alloc (.cells #[.int .i64 s, .int .i64 a, .int .i64 d, .bool o, .bool u] 47 (0, 0)) = W := ⟨_, rfl⟩
      obtain ⟨b7, p0, p1, p2, p3, p4, s7⟩ := box_cc hw7
      have B7 : Hid (Below w.heap.size w w7) := HB.out.trans (b7.mono HB.out.size)
      clear b7 hb
      by_cases k0 : k = 0
      · have hp : prvC l k = none := by rw [k0]; rfl
        have gn : decide ((0 : Int) < (k : Int)) = false := by rw [decide_eq_false_iff_not]; omega
        have gn' : decide (0 < k) = false := by rw [decide_eq_false_iff_not]; omega
        clear k0
        by_cases h1 : s < 0
        · have R := Lib.hid (ck_stop (e := 9) hz.out hx (by rw [hp]; exact badC_ref (st := st) (lo := lo) (hi := hi) (p := none) (x := (s, a, d, o, u)) (.inl h1)) (by decide))
          clear hz hx hp HB 
          go_wp2_with fail
          go_ret2
          exact ⟨ret_chk (by rw [R.out]) (by rw [R.out]), B7.out⟩
        have d1 : decide (s < 0) = false := decide_eq_false h1
        by_cases h2 : st ≤ s
        · have R := Lib.hid (ck_stop (e := 9) hz.out hx (by rw [hp]; exact badC_ref (st := st) (lo := lo) (hi := hi) (p := none) (x := (s, a, d, o, u)) (.inr h2)) (by decide))
          clear hz hx hp HB h1
          go_wp2_with fail
          go_ret2
          exact ⟨ret_chk (by rw [R.out]) (by rw [R.out]), B7.out⟩
        have d2 : decide (st ≤ s) = false := decide_eq_false h2
        by_cases h4 : a < lo
        · have R := Lib.hid (ck_stop (e := 10) hz.out hx (by rw [hp]; exact badC_time (st := st) (lo := lo) (hi := hi) (p := none) (x := (s, a, d, o, u)) h1 h2 onC_none (.inl h4)) (by decide))
          clear hz hx hp HB h1 h2
          go_wp2_with fail
          go_quiet (fail)
          go_wp2_with fail
          go_quiet (fail)
          go_wp2_with fail
          go_ret2
          exact ⟨ret_chk (by rw [R.out]) (by rw [R.out]), below_drewN (below_drewN B7.out _) _⟩
        have d4 : decide (a < lo) = false := decide_eq_false h4
        by_cases h5 : d < a
        · have R := Lib.hid (ck_stop (e := 10) hz.out hx (by rw [hp]; exact badC_time (st := st) (lo := lo) (hi := hi) (p := none) (x := (s, a, d, o, u)) h1 h2 onC_none (.inr (.inl h5))) (by decide))
          clear hz hx hp HB h1 h2 h4
          go_wp2_with fail
          go_quiet (fail)
          go_wp2_with fail
          go_quiet (fail)
          go_wp2_with fail
          go_ret2
          exact ⟨ret_chk (by rw [R.out]) (by rw [R.out]), below_drewN (below_drewN B7.out _) _⟩
        have d5 : decide (d < a) = false := decide_eq_false h5
        by_cases h6 : hi < d
        · have R := Lib.hid (ck_stop (e := 10) hz.out hx (by rw [hp]; exact badC_time (st := st) (lo := lo) (hi := hi) (p := none) (x := (s, a, d, o, u)) h1 h2 onC_none (.inr (.inr h6))) (by decide))
          clear hz hx hp HB h1 h2 h4 h5
          go_wp2_with fail
          go_quiet (fail)
          go_wp2_with fail
          go_quiet (fail)
          go_wp2_with fail
          go_ret2
          exact ⟨ret_chk (by rw [R.out]) (by rw [R.out]), below_drewN (below_drewN B7.out _) _⟩
        have d6 : decide (hi < d) = false := decide_eq_false h6
        have N := Lib.hid (ck_next hz.out hx (by rw [hp]; exact badC_none (st := st) (lo := lo) (hi := hi) (p := none) (x := (s, a, d, o, u)) h1 h2 onC_none h4 h5 h6 ovC_none))
        clear hz hx hp HB h1 h2 h4 h5 h6
        go_wp2_with fail
        go_quiet (fail)
        go_wp2_with fail
        go_quiet (fail)
        go_wp2_with fail
        go_roundw
        case rel => exact ⟨k + 1, by go_num, by omega, N, Lib.hid (below_drewN B7.out _)⟩
        case measure => simp [intOf]; omega
      · obtain ⟨m, hm⟩ : ∃ m, k = m + 1 := ⟨k - 1, by omega⟩
        obtain ⟨⟨s1, a1, t1, o1, u1⟩, hy⟩ := at_lt (show m < l.length by omega)
        have hp : prvC l k = some (s1, a1, t1, o1, u1) := by rw [hm]; exact hy
        obtain ⟨b', f', hA, hb', q0, q1, q2, -, -⟩ := five_at (H.out.below B7.out) hy
        cases hA
        have gm : (m : Int) < (l.length : Int) := by omega
        have gn : (0 : Int) < (k : Int) := by omega
        have gn' : 0 < k := by omega
        have gs : (k : Int) - 1 = (m : Int) := by omega
        clear k0 hm hy hb'
        by_cases h1 : s < 0
        · have R := Lib.hid (ck_stop (e := 9) hz.out hx (by rw [hp]; exact badC_ref (st := st) (lo := lo) (hi := hi) (p := some (s1, a1, t1, o1, u1)) (x := (s, a, d, o, u)) (.inl h1)) (by decide))
          clear hz hx hp HB 
          go_wp2_with fail
          go_ret2
          exact ⟨ret_chk (by rw [R.out]) (by rw [R.out]), B7.out⟩
        have d1 : decide (s < 0) = false := decide_eq_false h1
        by_cases h2 : st ≤ s
        · have R := Lib.hid (ck_stop (e := 9) hz.out hx (by rw [hp]; exact badC_ref (st := st) (lo := lo) (hi := hi) (p := some (s1, a1, t1, o1, u1)) (x := (s, a, d, o, u)) (.inr h2)) (by decide))
          clear hz hx hp HB h1
          go_wp2_with fail
          go_ret2
          exact ⟨ret_chk (by rw [R.out]) (by rw [R.out]), B7.out⟩
        have d2 : decide (st ≤ s) = false := decide_eq_false h2
        by_cases h3 : s = s1
        · have e3 := beq_true h3.symm
          have R := Lib.hid (ck_stop (e := 13) hz.out hx (by rw [hp]; exact badC_stop (st := st) (lo := lo) (hi := hi) (p := some (s1, a1, t1, o1, u1)) (x := (s, a, d, o, u)) h1 h2 (onC_yes h3)) (by decide))
          clear hz hx hp HB h1 h2 h3
          go_wp2_with fail
          go_quiet (fail)
          go_wp2_with fail
          go_ret2
          exact ⟨ret_chk (by rw [R.out]) (by rw [R.out]), below_drewN B7.out _⟩
        have e3 := beq_false (Ne.symm h3)
        by_cases h4 : a < lo
        · have R := Lib.hid (ck_stop (e := 10) hz.out hx (by rw [hp]; exact badC_time (st := st) (lo := lo) (hi := hi) (p := some (s1, a1, t1, o1, u1)) (x := (s, a, d, o, u)) h1 h2 (onC_no h3) (.inl h4)) (by decide))
          clear hz hx hp HB h1 h2 h3
          go_wp2_with fail
          go_quiet (fail)
          go_wp2_with fail
          go_quiet (fail)
          go_wp2_with fail
          go_ret2
          exact ⟨ret_chk (by rw [R.out]) (by rw [R.out]), below_drewN (below_drewN B7.out _) _⟩
        have d4 : decide (a < lo) = false := decide_eq_false h4
        by_cases h5 : d < a
        · have R := Lib.hid (ck_stop (e := 10) hz.out hx (by rw [hp]; exact badC_time (st := st) (lo := lo) (hi := hi) (p := some (s1, a1, t1, o1, u1)) (x := (s, a, d, o, u)) h1 h2 (onC_no h3) (.inr (.inl h5))) (by decide))
          clear hz hx hp HB h1 h2 h3 h4
          go_wp2_with fail
          go_quiet (fail)
          go_wp2_with fail
          go_quiet (fail)
          go_wp2_with fail
          go_ret2
          exact ⟨ret_chk (by rw [R.out]) (by rw [R.out]), below_drewN (below_drewN B7.out _) _⟩
        have d5 : decide (d < a) = false := decide_eq_false h5
        by_cases h6 : hi < d
        · have R := Lib.hid (ck_stop (e := 10) hz.out hx (by rw [hp]; exact badC_time (st := st) (lo := lo) (hi := hi) (p := some (s1, a1, t1, o1, u1)) (x := (s, a, d, o, u)) h1 h2 (onC_no h3) (.inr (.inr h6))) (by decide))
          clear hz hx hp HB h1 h2 h3 h4 h5
          go_wp2_with fail
          go_quiet (fail)
          go_wp2_with fail
          go_quiet (fail)
          go_wp2_with fail
          go_ret2
          exact ⟨ret_chk (by rw [R.out]) (by rw [R.out]), below_drewN (below_drewN B7.out _) _⟩
        have d6 : decide (hi < d) = false := decide_eq_false h6
        by_cases h7 : a < t1
        · have R := Lib.hid (ck_stop (e := 10) hz.out hx (by rw [hp]; exact badC_over (st := st) (lo := lo) (hi := hi) (p := some (s1, a1, t1, o1, u1)) (x := (s, a, d, o, u)) h1 h2 (onC_no h3) h4 h5 h6 (ovC_yes h7)) (by decide))
          clear hz hx hp HB h1 h2 h3 h4 h5 h6
          go_wp2_with fail
          go_quiet (fail)
          go_wp2_with fail
          go_quiet (fail)
          go_wp2_with fail
          go_ret2
          exact ⟨ret_chk (by rw [R.out]) (by rw [R.out]), below_drewN (below_drewN B7.out _) _⟩
        have d7 : decide (a < t1) = false := decide_eq_false h7
        have N := Lib.hid (ck_next hz.out hx (by rw [hp]; exact badC_none (st := st) (lo := lo) (hi := hi) (p := some (s1, a1, t1, o1, u1)) (x := (s, a, d, o, u)) h1 h2 (onC_no h3) h4 h5 h6 (ovC_no h7)))
        clear hz hx hp HB h1 h2 h3 h4 h5 h6 h7
        go_wp2_with fail
        go_quiet (fail)
        go_wp2_with fail
        go_quiet (fail)
        go_wp2_with fail
        go_roundw
        case rel => exact ⟨k + 1, by go_num, by omega, N, Lib.hid (below_drewN B7.out _)⟩
        case measure => simp [intOf]; omega
    · have R := Lib.hid (ck_done hz.out (by omega))
      have d : decide (k < l.length) = false := by rw [decide_eq_false_iff_not]; exact hlt
      clear hz hlt
      go_wp2_with fail
      go_ret2
      exact ⟨ret_chk (by rw [R.out]) (by rw [R.out]), HB.out⟩
end Go.Proofs.Ytgdlibmgmokfaaa
