/-
  isWithin, Dominates, and the reference's Dominates and Compare. Condition: none.
-/
import Derived.Test.YtokcpgpchiikgaaPSt
import Derived.BigQuiet
namespace Go.Proofs.Ytokcpgpchiikgaa
open Go.RowKit

set_option maxHeartbeats 1000000 in
theorem within_any (a b : Vec) (w : World) : Calls Try.prog 30 #[.agg #[.int .i64 a.1, .int .i64 a.2.1, .int .i64 a.2.2.1, .int .i64 a.2.2.2], .agg #[.int .i64 b.1, .int .i64 b.2.1, .int .i64 b.2.2.1, .int .i64 b.2.2.2]] w fun e w' => e = .returned (.bool (wi a b)) ∧ Below w.heap.size w w' := by
  obtain ⟨w0, hw0, hs, ra, rb, b0⟩ := box_two w a b 23
  have hz := b0.size
  have B0 := Lib.hid b0
  have RA := Lib.hid ra
  have RB := Lib.hid rb
  clear b0 ra rb
  go_enter Try.func30, Try.ntmps30
  go_wp2_with fail
  clear hw0
  go_loopw [6] (fun i wr => ∃ k : Nat, i = .int .i64 (k : Int) ∧ k ≤ 4 ∧ Hid (∀ j, j < k → cp a j ≤ cp b j) ∧ Hid (Below w0.heap.size w0 wr)) (fun i _ => 4 - (intOf i).toNat)
  case atStart => exact ⟨0, rfl, by omega, fun j hj => absurd hj (Nat.not_lt_zero _), Lib.hid (Below.refl _ _)⟩
  case round =>
    obtain ⟨k, rfl, hk, HL, HB⟩ := hrel
    by_cases hlt : k < 4
    · have m0 := box_cp ((HB.out.block w.heap.size (by omega)).trans RA.out) hlt
      have m1 := box_cp ((HB.out.block (w.heap.size + 1) (by omega)).trans RB.out) hlt
      have i0 := fun W => cix_run Try.underlying23 w.heap.size k hlt W
      have i1 := fun W => cix_run Try.underlying23 (w.heap.size + 1) k hlt W
      have gk : (k : Int) < 4 := by omega
      by_cases hc : cp b k < cp a k
      · have N : Hid (wi a b = false) := by
          show _ = _
          rw [Bool.eq_false_iff]
          intro h
          have := (wi_cp a b).1 h k hlt
          omega
        generalize cp a k = x at *
        generalize cp b k = y at *
        go_wp2_with fail
        go_quiet (fail)
        have B2 := Lib.hid (below_drewN HB.out nq)
        generalize wr.drewN nq = w2 at B2 ⊢
        go_wp2_with fail
        go_ret
        exact ⟨ret_bool N.out.symm, B0.out.trans (B2.out.mono hz)⟩
      · have d : decide (cp b k < cp a k) = false := decide_eq_false hc
        have HN : Hid (∀ j, j < k + 1 → cp a j ≤ cp b j) := fun j hj => by
          by_cases e : j = k
          · subst e; omega
          · exact HL.out j (by omega)
        clear HL hc
        generalize cp a k = x at *
        generalize cp b k = y at *
        go_wp2_with fail
        go_quiet (fail)
        have B2 := Lib.hid (below_drewN HB.out nq)
        generalize wr.drewN nq = w2 at B2 ⊢
        go_wp2_with fail
        go_roundw
        case rel => exact ⟨k + 1, by go_num, by omega, HN, B2⟩
        case measure => simp [intOf]; omega
    · obtain rfl : k = 4 := by omega
      have N : Hid (wi a b = true) := (wi_cp a b).2 HL.out
      clear hlt HL
      go_wp2_with fail
      go_ret
      exact ⟨ret_bool N.out.symm, B0.out.trans (HB.out.mono hz)⟩
theorem eq_cp (a b : Vec) : a = b ↔ ∀ k, k < 4 → cp a k = cp b k := by
  rw [vec_eq]
  constructor
  · rintro ⟨h0, h1, h2, h3⟩ k hk
    match k, hk with
    | 0, _ => exact h0
    | 1, _ => exact h1
    | 2, _ => exact h2
    | 3, _ => exact h3
  · intro h
    exact ⟨h 0 (by omega), h 1 (by omega), h 2 (by omega), h 3 (by omega)⟩
/-- A component before k is smaller. -/
def LessQ (a b : Vec) (k : Nat) (q : Bool) : Prop := q = true ↔ ∃ j, j < k ∧ cp a j < cp b j
theorem dom_any (a b : Vec) (w : World) : Calls Try.prog 9 #[.agg #[.int .i64 a.1, .int .i64 a.2.1, .int .i64 a.2.2.1, .int .i64 a.2.2.2], .agg #[.int .i64 b.1, .int .i64 b.2.1, .int .i64 b.2.2.1, .int .i64 b.2.2.2]] w fun e w' => e = .returned (.bool (dom a b)) ∧ Below w.heap.size w w' := by
  obtain ⟨w0, hw0, hs, ra, rb, b0⟩ := box_two w a b 23
  have m0 := box_cp ra (k := 0) (by omega)
  have m1 := box_cp ra (k := 1) (by omega)
  have m2 := box_cp ra (k := 2) (by omega)
  have m3 := box_cp ra (k := 3) (by omega)
  have n0 := box_cp rb (k := 0) (by omega)
  have n1 := box_cp rb (k := 1) (by omega)
  have n2 := box_cp rb (k := 2) (by omega)
  have n3 := box_cp rb (k := 3) (by omega)
  simp only [cp] at m0 m1 m2 m3 n0 n1 n2 n3
  have gq : Try.prog.eqGuardType Try.prog.depth 23 = false := by kernel_rfl
  have C := Lib.hid (within_any a b w0)
  have B0 := Lib.hid b0
  have D : Hid (dom a b = (!decide (a = b) && wi a b)) := by
    show _ = _
    unfold dom bne
    by_cases e : a = b <;> simp [e]
  generalize dom a b = r at D
  clear b0 ra rb
  by_cases e : a = b
  · rw [decide_eq_true e] at D
    have N : Hid (r = false) := by
      show _ = _
      rw [D.out]; rfl
    have NE : ∀ W, (binOp .neq 23 (.agg #[.int .i64 a.1, .int .i64 a.2.1, .int .i64 a.2.2.1, .int .i64 a.2.2.2]) (.agg #[.int .i64 b.1, .int .i64 b.2.1, .int .i64 b.2.2.1, .int .i64 b.2.2.2])).run Try.prog W = .ok (.bool false) W := fun W => by rw [neq_run Try.underlying23, decide_eq_true e]; rfl
    clear e D C
    go_enter Try.func9, Try.ntmps9
    go_wp2_with fail
    go_ret
    exact ⟨ret_bool N.out.symm, B0.out⟩
  · rw [decide_eq_false e] at D
    have N : Hid (r = wi a b) := by
      show _ = _
      rw [D.out]; simp
    have NE : ∀ W, (binOp .neq 23 (.agg #[.int .i64 a.1, .int .i64 a.2.1, .int .i64 a.2.2.1, .int .i64 a.2.2.2]) (.agg #[.int .i64 b.1, .int .i64 b.2.1, .int .i64 b.2.2.1, .int .i64 b.2.2.2])).run Try.prog W = .ok (.bool true) W := fun W => by rw [neq_run Try.underlying23, decide_eq_false e]; rfl
    generalize wi a b = q at C N
    clear e D
    cases q
    all_goals
      go_enter Try.func9, Try.ntmps9
      go_wp2_with fail
      refine C.out.mono ?_
      rintro e w1 ⟨rfl, b1⟩
      have B1 := Lib.hid (B0.out.trans (b1.mono B0.out.size))
      clear b1
      go_wp2_with fail
      go_ret
      exact ⟨ret_bool N.out.symm, B1.out⟩
set_option maxHeartbeats 1000000 in
theorem rdom_any (a b : Vec) (w : World) : Calls Try.prog 10 #[.agg #[.int .i64 a.1, .int .i64 a.2.1, .int .i64 a.2.2.1, .int .i64 a.2.2.2], .agg #[.int .i64 b.1, .int .i64 b.2.1, .int .i64 b.2.2.1, .int .i64 b.2.2.2]] w fun e w' => e = .returned (.bool (dom a b)) ∧ Below w.heap.size w w' := by
  obtain ⟨w0, hw0, hs, ra, rb, b0⟩ := box_two w a b 26
  have hz := b0.size
  have B0 := Lib.hid b0
  have RA := Lib.hid ra
  have RB := Lib.hid rb
  clear b0 ra rb
  go_enter Try.func10, Try.ntmps10
  go_wp2_with fail
  clear hw0
  go_loopw [5, 6] (fun s i wr => ∃ (k : Nat) (q : Bool), i = .int .i64 (k : Int) ∧ s = .bool q ∧ k ≤ 4 ∧ Hid (∀ j, j < k → cp a j ≤ cp b j) ∧ Hid (LessQ a b k q) ∧ Hid (Below w0.heap.size w0 wr)) (fun _ i _ => 4 - (intOf i).toNat)
  case atStart => exact ⟨0, false, rfl, rfl, by omega, fun j hj => absurd hj (Nat.not_lt_zero _), (Lib.hid ⟨(fun h => by cases h), fun ⟨j, hj, _⟩ => absurd hj (Nat.not_lt_zero _)⟩ : Hid (LessQ a b 0 false)), Lib.hid (Below.refl _ _)⟩
  case round =>
    obtain ⟨k, q, rfl, rfl, hk, HL, HQ, HB⟩ := hrel
    by_cases hlt : k < 4
    · have m0 := box_cp ((HB.out.block w.heap.size (by omega)).trans RA.out) hlt
      have m1 := box_cp ((HB.out.block (w.heap.size + 1) (by omega)).trans RB.out) hlt
      have i0 := fun W => cix_run Try.underlying26 w.heap.size k hlt W
      have i1 := fun W => cix_run Try.underlying26 (w.heap.size + 1) k hlt W
      have gk : (k : Int) < 4 := by omega
      by_cases hc : cp b k < cp a k
      · have N : Hid (dom a b = false) := by
          show _ = _
          rw [Bool.eq_false_iff]
          intro h
          have := (wi_cp a b).1 ((dom_iff a b).1 h).2 k hlt
          omega
        generalize cp a k = x at *
        generalize cp b k = y at *
        go_wp2_with fail
        go_quiet (fail)
        have B2 := Lib.hid (below_drewN HB.out nq)
        generalize wr.drewN nq = w2 at B2 ⊢
        go_wp2_with fail
        go_ret
        exact ⟨ret_bool N.out.symm, B0.out.trans (B2.out.mono hz)⟩
      · have d : decide (cp b k < cp a k) = false := decide_eq_false hc
        have HN : Hid (∀ j, j < k + 1 → cp a j ≤ cp b j) := fun j hj => by
          by_cases e : j = k
          · subst e; omega
          · exact HL.out j (by omega)
        by_cases hd : cp a k < cp b k
        · have HM : Hid (LessQ a b (k + 1) true) := ⟨fun _ => ⟨k, by omega, hd⟩, fun _ => rfl⟩
          clear HL HQ hc
          generalize cp a k = x at *
          generalize cp b k = y at *
          go_wp2_with fail
          go_quiet (fail)
          have B2 := Lib.hid (below_drewN HB.out nq)
          have q0 : (wr.drewN nq).cell? _ = _ := m0
          have q1 : (wr.drewN nq).cell? _ = _ := m1
          clear m0 m1
          generalize wr.drewN nq = w2 at B2 q0 q1 ⊢
          go_wp2_with fail
          go_quiet (fail)
          have B3 := Lib.hid (below_drewN B2.out nq)
          generalize w2.drewN nq = w3 at B3 ⊢
          go_wp2_with fail
          go_roundw
          case rel => exact ⟨k + 1, true, by go_num, rfl, by omega, HN, HM, B3⟩
          case measure => simp [intOf]; omega
        · have e : decide (cp a k < cp b k) = false := decide_eq_false hd
          have HM : Hid (LessQ a b (k + 1) q) := Iff.trans HQ.out ⟨fun ⟨j, hj, hh⟩ => ⟨j, by omega, hh⟩, fun ⟨j, hj, hh⟩ => by
            by_cases e : j = k
            · subst e; exact absurd hh hd
            · exact ⟨j, by omega, hh⟩⟩
          clear HL HQ hc hd
          generalize cp a k = x at *
          generalize cp b k = y at *
          go_wp2_with fail
          go_quiet (fail)
          have B2 := Lib.hid (below_drewN HB.out nq)
          have q0 : (wr.drewN nq).cell? _ = _ := m0
          have q1 : (wr.drewN nq).cell? _ = _ := m1
          clear m0 m1
          generalize wr.drewN nq = w2 at B2 q0 q1 ⊢
          go_wp2_with fail
          go_quiet (fail)
          have B3 := Lib.hid (below_drewN B2.out nq)
          generalize w2.drewN nq = w3 at B3 ⊢
          go_wp2_with fail
          go_roundw
          case rel => exact ⟨k + 1, q, by go_num, rfl, by omega, HN, HM, B3⟩
          case measure => simp [intOf]; omega
    · obtain rfl : k = 4 := by omega
      have N : Hid (dom a b = q) := by
        show _ = _
        rw [Bool.eq_iff_iff, dom_iff, show (q = true) = _ from propext HQ.out]
        have hw := (wi_cp a b).2 HL.out
        constructor
        · rintro ⟨h1, _⟩
          rcases Classical.em (∃ j, j < 4 ∧ cp a j < cp b j) with h | h
          · exact h
          · exact absurd ((eq_cp a b).2 fun k hk => by have := HL.out k hk; have : ¬ cp a k < cp b k := fun hh => h ⟨k, hk, hh⟩; omega) h1
        · rintro ⟨j, hj, hh⟩
          refine ⟨fun e => ?_, hw⟩
          subst e
          omega
      clear hlt HL HQ
      go_wp2_with fail
      go_ret
      exact ⟨ret_bool N.out.symm, B0.out.trans (HB.out.mono hz)⟩
end Go.Proofs.Ytokcpgpchiikgaa
