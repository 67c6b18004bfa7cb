/-
  The reference's Length: what the call answers. Condition: lists of at most 1000 spans whose ends are ints.
-/
import Derived.Test.YtmlmdggfcdakhaaVRef3
namespace Go.Proofs.Ytmlmdggfcdakhaa
open Go.RowKit

theorem u64_span {S a b : Int} (h : 0 ≤ S + (b - a) ∧ S + (b - a) ≤ 18446744073709551615) : IntKind.u64.wrap (S + IntKind.u64.wrap (IntKind.u64.wrap b - IntKind.u64.wrap a)) = S + (b - a) := by
  show (S + (b % 18446744073709551616 - a % 18446744073709551616) % 18446744073709551616) % 18446744073709551616 = _
  omega
set_option maxRecDepth 100000 in
set_option maxHeartbeats 4000000 in
theorem rlen_any (v : Value) (l : List Sp) (hl : l.length ≤ 1000) (ok : OkS l) (w : World) (h : LstV w v l) :
    Calls Try.prog 23 #[v] w fun e w' => e = .returned (.tuple #[.int .i64 (if lenS l ≤ 9223372036854775807 then lenS l else 0), .bool (decide (lenS l ≤ 9223372036854775807))]) ∧ Below w.heap.size w w' := by
  have C := Lib.hid (comb_any 0 (.inl rfl) v (.slice none 0 0) l [] hl (by decide) w h (LstG.nil _ _))
  rw [nrm_op] at C
  have hN := (nrmS_spec l).1
  have hO := ok.nrm
  have hlen : (nrmS l).length ≤ 1000 := Nat.le_trans (nrmS_len l) hl
  unfold lenS
  generalize nrmS l = n at C hN hO hlen ⊢
  clear ok h
  generalize hr : (if sumS n ≤ 9223372036854775807 then sumS n else 0) = r
  generalize hq : decide (sumS n ≤ 9223372036854775807) = q
  have HR := Lib.hid hr
  have HQ := Lib.hid hq
  clear hr hq
  go_enter Try.func23, Try.ntmps23
  go_wp2_with fail
  refine C.out.mono ?_
  rintro er w1 ⟨ve, rfl, l1, b1⟩
  have hh := l1
  obtain ⟨A, c, rfl, -⟩ := hh
  have L1 := Lib.hid l1
  have B1 := Lib.hid b1
  clear l1 b1 C
  go_wp2_with fail
  go_loopw [5, 6] (fun u i wr => ∃ k : Nat, i = .int .i64 (k : Int) ∧ k ≤ n.length ∧ u = .int .u64 (sumS (n.take k)) ∧ Hid (Below w1.heap.size w1 wr)) (fun _ i _ => n.length - (intOf i).toNat)
  case atStart => exact ⟨0, rfl, Nat.zero_le _, rfl, Lib.hid (Below.refl _ _)⟩
  case round =>
    obtain ⟨k, rfl, hk, rfl, HB⟩ := hrel
    by_cases hlt : k < n.length
    · obtain ⟨s, hs⟩ := at_lt hlt
      obtain ⟨p, o, rfl, hp, m0, m1⟩ := sp_at (L1.out.below HB.out) hs
      have gk : (k : Int) < (n.length : Int) := by omega
      have f1 := sum_fits hN hO k
      have f2 := sum_fits hN hO (k + 1)
      have f3 := hO.at hs
      have E := sumS_next hs
      have U := Lib.hid (u64_span (S := sumS (n.take k)) (a := s.1) (b := s.2) (by rw [← E]; exact f2))
      have EE := Lib.hid E
      clear hs E f1 f2 f3
      go_wp2_with fail
      go_quiet (fail)
      have bq := below_drewN (Below.refl wr.heap.size wr) nq
      have B2 := Lib.hid (HB.out.trans (bq.mono HB.out.size))
      clear m0 m1 bq HB
      generalize wr.drewN nq = w2 at B2 ⊢
      go_wp2_with fail
      go_roundw
      case rel => exact ⟨k + 1, by go_num, by omega, by rw [U.out, EE.out], B2⟩
      case measure => simp [intOf]; omega
    · have d : decide (k < n.length) = false := by rw [decide_eq_false_iff_not]; exact hlt
      have R : Hid (sumS (n.take k) = sumS n) := by
        show _ = _
        rw [List.take_of_length_le (by omega)]
      have f2 := sum_fits hN hO k
      generalize sumS (n.take k) = S at R f2 ⊢
      clear hlt hN hO
      by_cases hS : S ≤ 9223372036854775807
      · have d2 : decide ((9223372036854775807 : Int) < S) = false := decide_eq_false (by omega)
        have W : IntKind.i64.wrap S = S := IntWalk.i64_in _ (by omega)
        have HS := Lib.hid hS
        clear hS
        go_wp2_with fail
        go_ret2
        refine ⟨?_, B1.out.trans (HB.out.mono B1.out.size)⟩
        rw [← HR.out, ← HQ.out, ← R.out, if_pos HS.out, decide_eq_true HS.out]
        rfl
      · have d2 : (9223372036854775807 : Int) < S := by omega
        have HS := Lib.hid hS
        clear hS
        go_wp2_with fail
        go_ret2
        refine ⟨?_, B1.out.trans (HB.out.mono B1.out.size)⟩
        rw [← HR.out, ← HQ.out, ← R.out, if_neg (by have := HS.out; omega), decide_eq_false (by have := HS.out; omega)]
        rfl
end Go.Proofs.Ytmlmdggfcdakhaa
