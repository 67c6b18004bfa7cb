/-
  The code's checkCall and Check of lists of calls: what each call answers; nothing that existed before the call has changed behind it. Condition: none beyond lengths of 63 bits.
-/
import Derived.Test.YtfbobfejnbhjbaaDoorWSt
namespace Go.Proofs.YtfbobfejnbhjbaaDoor
open Go.RowKit

set_option maxRecDepth 100000 in
set_option maxHeartbeats 4000000 in
theorem kcall_first (v : Value) (l : List Cl) (hl : l.length ≤ 9223372036854775807) (st lo hi s a d : Int) (o u : Bool) (hx : l[0]? = some (s, a, d, o, u)) (w : World) (h : LstC w v l) : Calls Tryd.prog 42 #[v, .int .i64 0, .int .i64 st, .int .i64 lo, .int .i64 hi] w fun e w' => e = .returned (.int .i64 (badC st lo hi none (s, a, d, o, u))) ∧ Below w.heap.size w w' := by
  obtain ⟨A, c, rfl, -, -, -⟩ := id h
  obtain ⟨b, f, rfl, hb, r0, r1, r2, r3, r4⟩ := five_at h hx
  obtain ⟨w7, hw7⟩ : ∃ W, w.alloc (.cells #[.int .i64 s, .int .i64 a, .int .i64 d, .bool o, .bool u] 44 (0, 0)) = W := ⟨_, rfl⟩
  obtain ⟨b7, p0, p1, p2, p3, p4, s7⟩ := box_cc hw7
  rw [Nat.zero_mul, Nat.add_zero] at r0 r1 r2 r3 r4
  have B7 := Lib.hid b7
  have gl : 0 < l.length := (List.getElem?_eq_some_iff.1 hx).1
  have gk : (0 : Int) < (l.length : Int) := by omega
  clear b7 hx h hb
  by_cases h1 : s < 0
  · have R := Lib.hid (badC_ref (st := st) (lo := lo) (hi := hi) (p := none) (x := (s, a, d, o, u)) (.inl h1))
    go_enter Tryd.func42, Tryd.ntmps42
    go_wp2_with fail
    go_ret
    exact ⟨ret_int R.out.symm, B7.out⟩
  have d1 : decide (s < 0) = false := decide_eq_false h1
  by_cases h2 : st ≤ s
  · have R := Lib.hid (badC_ref (st := st) (lo := lo) (hi := hi) (p := none) (x := (s, a, d, o, u)) (.inr h2))
    clear h1
    go_enter Tryd.func42, Tryd.ntmps42
    go_wp2_with fail
    go_ret
    exact ⟨ret_int R.out.symm, B7.out⟩
  have d2 : decide (st ≤ s) = false := decide_eq_false h2
  by_cases h4 : a < lo
  · have R := Lib.hid (badC_time (st := st) (lo := lo) (hi := hi) (p := none) (x := (s, a, d, o, u)) h1 h2 onC_none (.inl h4))
    clear h1 h2
    go_enter Tryd.func42, Tryd.ntmps42
    go_wp2_with fail
    go_quiet (fail)
    go_wp2_with fail
    go_ret
    exact ⟨ret_int R.out.symm, below_drewN B7.out _⟩
  have d4 : decide (a < lo) = false := decide_eq_false h4
  by_cases h5 : d < a
  · have R := Lib.hid (badC_time (st := st) (lo := lo) (hi := hi) (p := none) (x := (s, a, d, o, u)) h1 h2 onC_none (.inr (.inl h5)))
    clear h1 h2 h4
    go_enter Tryd.func42, Tryd.ntmps42
    go_wp2_with fail
    go_quiet (fail)
    go_wp2_with fail
    go_ret
    exact ⟨ret_int R.out.symm, below_drewN B7.out _⟩
  have d5 : decide (d < a) = false := decide_eq_false h5
  by_cases h6 : hi < d
  · have R := Lib.hid (badC_time (st := st) (lo := lo) (hi := hi) (p := none) (x := (s, a, d, o, u)) h1 h2 onC_none (.inr (.inr h6)))
    clear h1 h2 h4 h5
    go_enter Tryd.func42, Tryd.ntmps42
    go_wp2_with fail
    go_quiet (fail)
    go_wp2_with fail
    go_ret
    exact ⟨ret_int R.out.symm, below_drewN B7.out _⟩
  have d6 : decide (hi < d) = false := decide_eq_false h6
  have R := Lib.hid (badC_none (st := st) (lo := lo) (hi := hi) (p := none) (x := (s, a, d, o, u)) h1 h2 onC_none h4 h5 h6 ovC_none)
  clear h1 h2 h4 h5 h6
  go_enter Tryd.func42, Tryd.ntmps42
  go_wp2_with fail
  go_quiet (fail)
  go_wp2_with fail
  go_quiet (fail)
  go_wp2_with fail
  go_ret
  exact ⟨ret_int R.out.symm, below_drewN (below_drewN B7.out _) _⟩
set_option maxRecDepth 100000 in
set_option maxHeartbeats 4000000 in
theorem kcall_later (v : Value) (l : List Cl) (hl : l.length ≤ 9223372036854775807) (st lo hi s a d : Int) (o u : Bool) (n m : Nat) (hm : n = m + 1) (hx : l[n]? = some (s, a, d, o, u)) (s1 a1 t1 : Int) (o1 u1 : Bool) (hy : l[m]? = some (s1, a1, t1, o1, u1)) (w : World) (h : LstC w v l) : Calls Tryd.prog 42 #[v, .int .i64 (n : Int), .int .i64 st, .int .i64 lo, .int .i64 hi] w fun e w' => e = .returned (.int .i64 (badC st lo hi (some (s1, a1, t1, o1, u1)) (s, a, d, o, u))) ∧ Below w.heap.size w w' := by
  obtain ⟨A, c, rfl, -, -, -⟩ := id h
  obtain ⟨b, f, rfl, hb, r0, r1, r2, r3, r4⟩ := five_at h hx
  obtain ⟨w7, hw7⟩ : ∃ W, w.alloc (.cells #[.int .i64 s, .int .i64 a, .int .i64 d, .bool o, .bool u] 44 (0, 0)) = W := ⟨_, rfl⟩
  obtain ⟨b7, p0, p1, p2, p3, p4, s7⟩ := box_cc hw7
  obtain ⟨b', f', hA, hb', q0, q1, q2, -, -⟩ := five_at (h.below b7) hy
  cases hA
  have B7 := Lib.hid b7
  have gl : n < l.length := (List.getElem?_eq_some_iff.1 hx).1
  have gk : (n : Int) < (l.length : Int) := by omega
  have gm : (m : Int) < (l.length : Int) := by omega
  have gn : (0 : Int) < (n : Int) := by omega
  have gn' : 0 < n := by omega
  have gs : (n : Int) - 1 = (m : Int) := by omega
  clear b7 hx hy h hb hb' hm q1
  by_cases h1 : s < 0
  · have R := Lib.hid (badC_ref (st := st) (lo := lo) (hi := hi) (p := some (s1, a1, t1, o1, u1)) (x := (s, a, d, o, u)) (.inl h1))
    go_enter Tryd.func42, Tryd.ntmps42
    go_wp2_with fail
    go_ret
    exact ⟨ret_int R.out.symm, B7.out⟩
  have d1 : decide (s < 0) = false := decide_eq_false h1
  by_cases h2 : st ≤ s
  · have R := Lib.hid (badC_ref (st := st) (lo := lo) (hi := hi) (p := some (s1, a1, t1, o1, u1)) (x := (s, a, d, o, u)) (.inr h2))
    clear h1
    go_enter Tryd.func42, Tryd.ntmps42
    go_wp2_with fail
    go_ret
    exact ⟨ret_int R.out.symm, B7.out⟩
  have d2 : decide (st ≤ s) = false := decide_eq_false h2
  by_cases h3 : s = s1
  · have e3 := beq_true h3
    have R := Lib.hid (badC_stop (st := st) (lo := lo) (hi := hi) (p := some (s1, a1, t1, o1, u1)) (x := (s, a, d, o, u)) h1 h2 (onC_yes h3))
    clear h1 h2 h3
    go_enter Tryd.func42, Tryd.ntmps42
    go_wp2_with fail
    go_quiet (fail)
    go_wp2_with fail
    go_ret
    exact ⟨ret_int R.out.symm, below_drewN B7.out _⟩
  have e3 := beq_false h3
  by_cases h4 : a < lo
  · have R := Lib.hid (badC_time (st := st) (lo := lo) (hi := hi) (p := some (s1, a1, t1, o1, u1)) (x := (s, a, d, o, u)) h1 h2 (onC_no h3) (.inl h4))
    clear h1 h2 h3
    go_enter Tryd.func42, Tryd.ntmps42
    go_wp2_with fail
    go_quiet (fail)
    go_wp2_with fail
    go_ret
    exact ⟨ret_int R.out.symm, below_drewN B7.out _⟩
  have d4 : decide (a < lo) = false := decide_eq_false h4
  by_cases h5 : d < a
  · have R := Lib.hid (badC_time (st := st) (lo := lo) (hi := hi) (p := some (s1, a1, t1, o1, u1)) (x := (s, a, d, o, u)) h1 h2 (onC_no h3) (.inr (.inl h5)))
    clear h1 h2 h3 h4
    go_enter Tryd.func42, Tryd.ntmps42
    go_wp2_with fail
    go_quiet (fail)
    go_wp2_with fail
    go_ret
    exact ⟨ret_int R.out.symm, below_drewN B7.out _⟩
  have d5 : decide (d < a) = false := decide_eq_false h5
  by_cases h6 : hi < d
  · have R := Lib.hid (badC_time (st := st) (lo := lo) (hi := hi) (p := some (s1, a1, t1, o1, u1)) (x := (s, a, d, o, u)) h1 h2 (onC_no h3) (.inr (.inr h6)))
    clear h1 h2 h3 h4 h5
    go_enter Tryd.func42, Tryd.ntmps42
    go_wp2_with fail
    go_quiet (fail)
    go_wp2_with fail
    go_ret
    exact ⟨ret_int R.out.symm, below_drewN B7.out _⟩
  have d6 : decide (hi < d) = false := decide_eq_false h6
  by_cases h7 : a < t1
  · have R := Lib.hid (badC_over (st := st) (lo := lo) (hi := hi) (p := some (s1, a1, t1, o1, u1)) (x := (s, a, d, o, u)) h1 h2 (onC_no h3) h4 h5 h6 (ovC_yes h7))
    clear h1 h2 h3 h4 h5 h6
    go_enter Tryd.func42, Tryd.ntmps42
    go_wp2_with fail
    go_quiet (fail)
    go_wp2_with fail
    go_quiet (fail)
    go_wp2_with fail
    go_ret
    exact ⟨ret_int R.out.symm, below_drewN (below_drewN B7.out _) _⟩
  have d7 : decide (a < t1) = false := decide_eq_false h7
  have R := Lib.hid (badC_none (st := st) (lo := lo) (hi := hi) (p := some (s1, a1, t1, o1, u1)) (x := (s, a, d, o, u)) h1 h2 (onC_no h3) h4 h5 h6 (ovC_no h7))
  clear h1 h2 h3 h4 h5 h6 h7
  go_enter Tryd.func42, Tryd.ntmps42
  go_wp2_with fail
  go_quiet (fail)
  go_wp2_with fail
  go_quiet (fail)
  go_wp2_with fail
  go_ret
  exact ⟨ret_int R.out.symm, below_drewN (below_drewN B7.out _) _⟩
set_option maxRecDepth 100000 in
set_option maxHeartbeats 4000000 in
theorem kcall_any (v : Value) (l : List Cl) (hl : l.length ≤ 9223372036854775807) (st lo hi s a d : Int) (o u : Bool) (n : Nat) (hx : l[n]? = some (s, a, d, o, u)) (w : World) (h : LstC w v l) : Calls Tryd.prog 42 #[v, .int .i64 (n : Int), .int .i64 st, .int .i64 lo, .int .i64 hi] w fun e w' => e = .returned (.int .i64 (badC st lo hi (prvC l n) (s, a, d, o, u))) ∧ Below w.heap.size w w' := by
  cases n with
  | zero => exact kcall_first v l hl st lo hi s a d o u hx w h
  | succ m =>
    have hlt := (List.getElem?_eq_some_iff.1 hx).1
    obtain ⟨⟨s1, a1, t1, o1, u1⟩, hy⟩ := at_lt (show m < l.length by omega)
    have e : prvC l (m + 1) = some (s1, a1, t1, o1, u1) := hy
    rw [e]
    exact kcall_later v l hl st lo hi s a d o u (m + 1) m rfl hx s1 a1 t1 o1 u1 hy w h
set_option maxRecDepth 100000 in
set_option maxHeartbeats 4000000 in
theorem kcheck_any (v : Value) (l : List Cl) (hl : l.length ≤ 9223372036854775807) (st lo hi : Int) (w : World) (h : LstC w v l) : Calls Tryd.prog 33 #[v, .int .i64 st, .int .i64 lo, .int .i64 hi] w fun e w' => e = .returned (.tuple #[.int .i64 ((chkC st lo hi l).1), .int .i64 ((chkC st lo hi l).2)]) ∧ Below w.heap.size w w' := by
  have H := Lib.hid h
  obtain ⟨A, c, rfl, -, -, -⟩ := h
  by_cases h2 : l.length < 2
  · have R := Lib.hid (chkC_few (st := st) (lo := lo) (hi := hi) h2)
    have g : (l.length : Int) < 2 := by omega
    generalize chkC st lo hi l = q at R ⊢
    clear h2
    go_enter Tryd.func33, Tryd.ntmps33
    go_wp2_with fail
    go_ret2
    exact ⟨ret_chk (by rw [R.out]) (by rw [R.out]), Below.refl _ _⟩
  have g2 : decide ((l.length : Int) < 2) = false := by rw [decide_eq_false_iff_not]; omega
  by_cases h32 : 32 < l.length
  · have R := Lib.hid (chkC_many (st := st) (lo := lo) (hi := hi) h32)
    have g : (32 : Int) < (l.length : Int) := by omega
    generalize chkC st lo hi l = q at R ⊢
    clear h32 h2
    go_enter Tryd.func33, Tryd.ntmps33
    go_wp2_with fail
    go_ret2
    exact ⟨ret_chk (by rw [R.out]) (by rw [R.out]), Below.refl _ _⟩
  have g : decide ((32 : Int) < (l.length : Int)) = false := by rw [decide_eq_false_iff_not]; omega
  have ST := Lib.hid (chkC_start (st := st) (lo := lo) (hi := hi) h2 h32)
  obtain ⟨q, hq⟩ : ∃ q, chkC st lo hi l = q := ⟨_, rfl⟩
  rw [hq]
  rw [hq] at ST
  clear h32 hq h2
  go_enter Tryd.func33, Tryd.ntmps33
  go_wp2_with fail
  go_loopw [22] (fun i wr => ∃ k : Nat, i = .int .i64 k ∧ k ≤ l.length ∧ Hid (q = ckF st lo hi (prvC l k) k (l.drop k)) ∧ Hid (Below w.heap.size w wr)) (fun i _ => l.length - (intOf i).toNat)
  case atStart => exact ⟨0, rfl, Nat.zero_le _, ST, Lib.hid (Below.refl _ _)⟩
  case round =>
    clear g g2 ST
    obtain ⟨k, rfl, hk, hz, HB⟩ := hrel
    by_cases hlt : k < l.length
    · obtain ⟨⟨s, a, d, o, u⟩, hx⟩ := at_lt hlt
      have gk : (k : Int) < (l.length : Int) := by omega
      have C := Lib.hid (kcall_any _ l hl st lo hi s a d o u k hx wr (H.out.below HB.out))
      by_cases he : badC st lo hi (prvC l k) (s, a, d, o, u) = 0
      · have N := Lib.hid (ck_next hz.out hx he)
        rw [he] at C
        clear hx hz he
        go_wp2_with fail
        refine C.out.mono ?_
        rintro e w8 ⟨rfl, b8⟩
        have B8 : Hid (Below w.heap.size w w8) := HB.out.trans (b8.mono HB.out.size)
        clear b8 C HB
        go_wp2_with fail
        go_roundw
        case rel => exact ⟨k + 1, by go_num, by omega, N, B8⟩
        case measure => simp [intOf]; omega
      · have R := Lib.hid (ck_stop hz.out hx rfl he)
        have ne := bne_true he
        generalize badC st lo hi (prvC l k) (s, a, d, o, u) = y at C R ne
        clear hx hz he
        go_wp2_with fail
        refine C.out.mono ?_
        rintro e w8 ⟨rfl, b8⟩
        have B8 : Hid (Below w.heap.size w w8) := HB.out.trans (b8.mono HB.out.size)
        clear b8 C HB
        go_wp2_with fail
        go_ret2
        exact ⟨ret_chk (by rw [R.out]) (by rw [R.out]), B8.out⟩
    · have R := Lib.hid (ck_done hz.out (by omega))
      have d : decide (k < l.length) = false := by rw [decide_eq_false_iff_not]; exact hlt
      clear hz hlt
      go_wp2_with fail
      go_ret2
      exact ⟨ret_chk (by rw [R.out]) (by rw [R.out]), HB.out⟩
end Go.Proofs.YtfbobfejnbhjbaaDoor
