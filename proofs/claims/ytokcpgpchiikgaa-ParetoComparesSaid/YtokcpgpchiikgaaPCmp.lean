/-
  Compare, the reference's Compare, slices.Compare at the components of two vectors. Condition: none.
-/
import Derived.Test.YtokcpgpchiikgaaPDom
import Derived.Sort.Grow
namespace Go.Proofs.Ytokcpgpchiikgaa
open Go.RowKit Go.Sort

theorem cv_hit {a b : Vec} {k : Nat} (hk : k < 4) (h : ∀ j, j < k → cp a j = cp b j) : (cp a k < cp b k → cv a b = -1) ∧ (cp b k < cp a k → cv a b = 1) := by
  have e0 := h 0
  have e1 := h 1
  have e2 := h 2
  unfold cv
  match k, hk with
  | 0, _ =>
    simp only [cp]
    constructor <;> intro hc <;> (repeat' split) <;> first | rfl | omega
  | 1, _ =>
    simp only [cp, Nat.zero_lt_one, true_implies] at e0 ⊢
    constructor <;> intro hc <;> (repeat' split) <;> first | rfl | omega
  | 2, _ =>
    have e0 := e0 (by omega)
    have e1 := e1 (by omega)
    simp only [cp] at e0 e1 ⊢
    constructor <;> intro hc <;> (repeat' split) <;> first | rfl | omega
  | 3, _ =>
    have e0 := e0 (by omega)
    have e1 := e1 (by omega)
    have e2 := e2 (by omega)
    simp only [cp] at e0 e1 e2 ⊢
    constructor <;> intro hc <;> (repeat' split) <;> first | rfl | omega
theorem cv_all {a b : Vec} (h : ∀ j, j < 4 → cp a j = cp b j) : cv a b = 0 := (cv_zero a b).2 ((eq_cp a b).2 h)
set_option maxHeartbeats 1000000 in
theorem rcmp_any (a b : Vec) (w : World) : Calls Try.prog 12 #[.agg #[.int .i64 a.1, .int .i64 a.2.1, .int .i64 a.2.2.1, .int .i64 a.2.2.2], .agg #[.int .i64 b.1, .int .i64 b.2.1, .int .i64 b.2.2.1, .int .i64 b.2.2.2]] w fun e w' => e = .returned (.int .i64 (cv a b)) ∧ Below w.heap.size w w' := by
  obtain ⟨w0, hw0, hs, ra, rb, b0⟩ := box_two w a b 26
  have hz := b0.size
  have B0 := Lib.hid b0
  have RA := Lib.hid ra
  have RB := Lib.hid rb
  clear b0 ra rb
  go_enter Try.func12, Try.ntmps12
  go_wp2_with fail
  clear hw0
  go_loopw [5] (fun i wr => ∃ k : Nat, i = .int .i64 (k : Int) ∧ k ≤ 4 ∧ Hid (∀ j, j < k → cp a j = cp b j) ∧ Hid (Below w0.heap.size w0 wr)) (fun i _ => 4 - (intOf i).toNat)
  case atStart => exact ⟨0, rfl, by omega, fun j hj => absurd hj (Nat.not_lt_zero _), Lib.hid (Below.refl _ _)⟩
  case round =>
    obtain ⟨k, rfl, hk, HL, HB⟩ := hrel
    by_cases hlt : k < 4
    · have m0 := box_cp ((HB.out.block w.heap.size (by omega)).trans RA.out) hlt
      have m1 := box_cp ((HB.out.block (w.heap.size + 1) (by omega)).trans RB.out) hlt
      have i0 := fun W => cix_run Try.underlying26 w.heap.size k hlt W
      have i1 := fun W => cix_run Try.underlying26 (w.heap.size + 1) k hlt W
      have gk : (k : Int) < 4 := by omega
      have CH := Lib.hid (cv_hit hlt HL.out)
      by_cases hc : cp a k < cp b k
      · have N : Hid (cv a b = -1) := CH.out.1 hc
        clear CH HL
        generalize cp a k = x at *
        generalize cp b k = y at *
        go_wp2_with fail
        go_quiet (fail)
        have B2 := Lib.hid (below_drewN HB.out nq)
        generalize wr.drewN nq = w2 at B2 ⊢
        go_wp2_with fail
        go_ret
        exact ⟨ret_int N.out.symm, B0.out.trans (B2.out.mono hz)⟩
      · have d : decide (cp a k < cp b k) = false := decide_eq_false hc
        by_cases hd : cp b k < cp a k
        · have N : Hid (cv a b = 1) := CH.out.2 hd
          clear CH HL hc
          generalize cp a k = x at *
          generalize cp b k = y at *
          go_wp2_with fail
          go_quiet (fail)
          have B2 := Lib.hid (below_drewN HB.out nq)
          have q0 : (wr.drewN nq).cell? _ = _ := m0
          have q1 : (wr.drewN nq).cell? _ = _ := m1
          clear m0 m1
          generalize wr.drewN nq = w2 at B2 q0 q1 ⊢
          go_wp2_with fail
          go_quiet (fail)
          have B3 := Lib.hid (below_drewN B2.out nq)
          generalize w2.drewN nq = w3 at B3 ⊢
          go_wp2_with fail
          go_ret
          exact ⟨ret_int N.out.symm, B0.out.trans (B3.out.mono hz)⟩
        · have e : decide (cp b k < cp a k) = false := decide_eq_false hd
          have HN : Hid (∀ j, j < k + 1 → cp a j = cp b j) := fun j hj => by
            by_cases e : j = k
            · subst e; omega
            · exact HL.out j (by omega)
          clear CH HL hc hd
          generalize cp a k = x at *
          generalize cp b k = y at *
          go_wp2_with fail
          go_quiet (fail)
          have B2 := Lib.hid (below_drewN HB.out nq)
          have q0 : (wr.drewN nq).cell? _ = _ := m0
          have q1 : (wr.drewN nq).cell? _ = _ := m1
          clear m0 m1
          generalize wr.drewN nq = w2 at B2 q0 q1 ⊢
          go_wp2_with fail
          go_quiet (fail)
          have B3 := Lib.hid (below_drewN B2.out nq)
          generalize w2.drewN nq = w3 at B3 ⊢
          go_wp2_with fail
          go_roundw
          case rel => exact ⟨k + 1, by go_num, by omega, HN, B3⟩
          case measure => simp [intOf]; omega
    · obtain rfl : k = 4 := by omega
      have N : Hid (cv a b = 0) := cv_all HL.out
      clear hlt HL
      go_wp2_with fail
      go_ret
      exact ⟨ret_int N.out.symm, B0.out.trans (HB.out.mono hz)⟩
theorem nan_any (a : Int) (w : World) : Calls Try.prog 42 #[.int .i64 a] w fun e w' => e = .returned (.bool false) ∧ w = w' := by
  go_enter Try.func42, Try.ntmps42
  go_wp2_with fail
  go_ret
  exact ⟨by simp, rfl⟩
theorem compare_any (a b : Int) (w : World) : Calls Try.prog 38 #[.int .i64 a, .int .i64 b] w fun e w' => e = .returned (.int .i64 (Lib.compareInt a b)) ∧ w = w' := by
  unfold Lib.compareInt
  by_cases h1 : a < b
  · rw [if_pos h1]
    go_enter Try.func38, Try.ntmps38
    go_wp2_with fail
    refine (nan_any a _).mono ?_
    rintro e w' ⟨rfl, rfl⟩
    go_wp2_with fail
    refine (nan_any b _).mono ?_
    rintro e w' ⟨rfl, rfl⟩
    go_wp2_with fail
    go_ret
    exact ⟨rfl, rfl⟩
  · rw [if_neg h1]
    have d1 : decide (a < b) = false := decide_eq_false h1
    by_cases h2 : b < a
    · rw [if_pos h2]
      clear h1
      go_enter Try.func38, Try.ntmps38
      go_wp2_with fail
      refine (nan_any a _).mono ?_
      rintro e w' ⟨rfl, rfl⟩
      go_wp2_with fail
      refine (nan_any b _).mono ?_
      rintro e w' ⟨rfl, rfl⟩
      go_wp2_with fail
      go_ret
      exact ⟨rfl, rfl⟩
    · rw [if_neg h2]
      have d2 : decide (b < a) = false := decide_eq_false h2
      clear h1 h2
      go_enter Try.func38, Try.ntmps38
      go_wp2_with fail
      refine (nan_any a _).mono ?_
      rintro e w' ⟨rfl, rfl⟩
      go_wp2_with fail
      refine (nan_any b _).mono ?_
      rintro e w' ⟨rfl, rfl⟩
      go_wp2_with fail
      go_ret
      exact ⟨rfl, rfl⟩
set_option maxHeartbeats 1000000 in
theorem slcmp_any (a b : Vec) (B B' : Nat) (T : TypeId) (w : World) (ra : w.heap[B]? = some (.cells #[.int .i64 a.1, .int .i64 a.2.1, .int .i64 a.2.2.1, .int .i64 a.2.2.2] T (0, 0))) (rb : w.heap[B']? = some (.cells #[.int .i64 b.1, .int .i64 b.2.1, .int .i64 b.2.2.1, .int .i64 b.2.2.2] T (0, 0))) :
    Calls Try.prog 31 #[.slice (some ⟨B, 0, none⟩) 4 4, .slice (some ⟨B', 0, none⟩) 4 4] w fun e w' => e = .returned (.int .i64 (cv a b)) ∧ w = w' := by
  have RA := Lib.hid ra
  have RB := Lib.hid rb
  clear ra rb
  go_enter Try.func31, Try.ntmps31
  go_wp2_with fail
  go_loopw [11] (fun i wr => ∃ k : Nat, i = .int .i64 (k : Int) ∧ k ≤ 4 ∧ Hid (∀ j, j < k → cp a j = cp b j) ∧ wr = w) (fun i _ => 4 - (intOf i).toNat)
  case atStart => exact ⟨0, rfl, by omega, fun j hj => absurd hj (Nat.not_lt_zero _), rfl⟩
  case round =>
    obtain ⟨k, rfl, hk, HL, hw⟩ := hrel
    have hw' := hw.symm
    subst hw'
    clear hw
    by_cases hlt : k < 4
    · have m0 := box_cp RA.out hlt
      have m1 := box_cp RB.out hlt
      have gk : (k : Int) < 4 := by omega
      have dk : decide (4 ≤ (k : Int)) = false := decide_eq_false (by omega)
      have CH := Lib.hid (cv_hit hlt HL.out)
      by_cases hc : cp a k < cp b k
      · have N : Hid (cv a b = -1) := CH.out.1 hc
        have C := Lib.hid (fun W => compare_any (cp a k) (cp b k) W)
        rw [show Lib.compareInt (cp a k) (cp b k) = -1 by unfold Lib.compareInt; rw [if_pos hc]] at C
        clear CH HL hc
        generalize cp a k = x at *
        generalize cp b k = y at *
        go_wp2_with fail
        refine (C.out _).mono ?_
        rintro e w' ⟨rfl, rfl⟩
        go_wp2_with fail
        go_ret
        exact ⟨ret_int N.out.symm, rfl⟩
      · by_cases hd : cp b k < cp a k
        · have N : Hid (cv a b = 1) := CH.out.2 hd
          have C := Lib.hid (fun W => compare_any (cp a k) (cp b k) W)
          rw [show Lib.compareInt (cp a k) (cp b k) = 1 by unfold Lib.compareInt; rw [if_neg hc, if_pos hd]] at C
          clear CH HL hc hd
          generalize cp a k = x at *
          generalize cp b k = y at *
          go_wp2_with fail
          refine (C.out _).mono ?_
          rintro e w' ⟨rfl, rfl⟩
          go_wp2_with fail
          go_ret
          exact ⟨ret_int N.out.symm, rfl⟩
        · have HN : Hid (∀ j, j < k + 1 → cp a j = cp b j) := fun j hj => by
            by_cases e : j = k
            · subst e; omega
            · exact HL.out j (by omega)
          have C := Lib.hid (fun W => compare_any (cp a k) (cp b k) W)
          rw [show Lib.compareInt (cp a k) (cp b k) = 0 by unfold Lib.compareInt; rw [if_neg hc, if_neg hd]] at C
          clear CH HL hc hd
          generalize cp a k = x at *
          generalize cp b k = y at *
          go_wp2_with fail
          refine (C.out _).mono ?_
          rintro e w' ⟨rfl, rfl⟩
          go_wp2_with fail
          go_roundw
          case rel => exact ⟨k + 1, by go_num, by omega, HN, trivial⟩
          case measure => simp [intOf]; omega
    · obtain rfl : k = 4 := by omega
      have N : Hid (cv a b = 0) := cv_all HL.out
      clear hlt HL
      go_wp2_with fail
      go_ret
      exact ⟨ret_int N.out.symm, rfl⟩
theorem all_run {T : TypeId} (hT : Try.prog.underlying T = some (.array 4 3)) (B : Nat) (W : World) :
    (Instr.sliceAt T (.pointer (some ⟨B, 0, none⟩)) none none none).run Try.prog W = .ok (.slice (some ⟨B, 0, none⟩) 4 4) W := by
  have he : Try.prog.elem T = 3 := by simp [Program.elem, hT]
  have hl : Try.prog.arrayLen T = 4 := by simp [Program.arrayLen, hT]
  rw [run_sliceAt_array_all W T ⟨B, 0, none⟩ (by rw [he, hl]; exact hT), hl, he]
  simp [slicedAt, Try.sizeOf3, Addr.add]
theorem cmpx_any (a b : Vec) (W : World) : Calls Try.prog 11 #[.agg #[.int .i64 a.1, .int .i64 a.2.1, .int .i64 a.2.2.1, .int .i64 a.2.2.2], .agg #[.int .i64 b.1, .int .i64 b.2.1, .int .i64 b.2.2.1, .int .i64 b.2.2.2]] W fun e w' => e = .returned (.int .i64 (cv a b)) ∧ ∃ q os', w' = grow (W.drewN q) os' := by
  obtain ⟨w0, hw0, hs, ra, rb, b0⟩ := box_two W a b 23
  have C := Lib.hid (fun m => slcmp_any a b W.heap.size (W.heap.size + 1) 23 (w0.drewN m) ra rb)
  have F : Hid (∀ m, ∃ q os', w0.drewN m = grow (W.drewN q) os') := fun m => ⟨m, _, by rw [← hw0, alloc_eq_grow, alloc_eq_grow, grow_grow]; rfl⟩
  have i0 := fun W' => all_run Try.underlying23 W.heap.size W'
  have i1 := fun W' => all_run Try.underlying23 (W.heap.size + 1) W'
  clear ra rb b0
  go_enter Try.func11, Try.ntmps11
  go_wp2_with fail
  go_quiet ((go_at_call 31; with_reducible exact Calls.quiet_of_same ((C.out _).mono fun _ _ ⟨h1, h2⟩ => ⟨h1, h2.symm⟩)))
  go_wp2_with fail
  go_ret
  exact ⟨rfl, F.out _⟩
theorem cmp_any (a b : Vec) (w : World) : Calls Try.prog 11 #[.agg #[.int .i64 a.1, .int .i64 a.2.1, .int .i64 a.2.2.1, .int .i64 a.2.2.2], .agg #[.int .i64 b.1, .int .i64 b.2.1, .int .i64 b.2.2.1, .int .i64 b.2.2.2]] w fun e w' => e = .returned (.int .i64 (cv a b)) ∧ Below w.heap.size w w' :=
  (cmpx_any a b w).mono fun _ _ ⟨he, q, os, hw⟩ => ⟨he, hw ▸ below_grow w q os⟩
end Go.Proofs.Ytokcpgpchiikgaa
