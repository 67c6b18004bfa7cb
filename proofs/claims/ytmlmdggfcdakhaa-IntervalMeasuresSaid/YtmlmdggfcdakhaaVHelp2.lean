/-
  The laws' own helpers: normal and same where they hold, bounded. Condition: lists of at most 1000000 spans.
-/
import Derived.Test.YtmlmdggfcdakhaaVHelp
import Derived.Laws.StructEq
namespace Go.Proofs.Ytmlmdggfcdakhaa
open Go.RowKit

set_option maxRecDepth 100000 in
set_option maxHeartbeats 4000000 in
theorem normal_any (v : Value) (l : List Sp) (hl : l.length ≤ 1000000) (hN : Nrm l) (w : World) (h : LstV w v l) : Calls Try.prog 25 #[v] w fun e w' => e = .returned (.bool true) ∧ Below w.heap.size w w' := by
  have hh := h
  obtain ⟨A, c, rfl, -⟩ := hh
  have H := Lib.hid h
  have HN := Lib.hid hN
  clear h hN
  go_enter Try.func25, Try.ntmps25
  go_wp2_with fail
  go_loopw [3] (fun i wr => ∃ k : Nat, i = .int .i64 (k : Int) ∧ k ≤ l.length ∧ Hid (Below w.heap.size w wr)) (fun i _ => l.length - (intOf i).toNat)
  case atStart => exact ⟨0, rfl, Nat.zero_le _, Lib.hid (Below.refl _ _)⟩
  case round =>
    obtain ⟨k, rfl, hk, HB⟩ := hrel
    by_cases hlt : k < l.length
    · obtain ⟨s, hs⟩ := at_lt hlt
      obtain ⟨p, o, rfl, hp, m0, m1⟩ := sp_at (H.out.below HB.out) hs
      have gk : (k : Int) < (l.length : Int) := by omega
      have hv := nrm_at HN.out hs
      have d1 : decide (s.2 ≤ s.1) = false := decide_eq_false (by omega)
      rcases Nat.eq_zero_or_pos k with rfl | hk0
      · clear hs hv
        rw [Nat.zero_mul, Nat.add_zero] at m0 m1
        go_wp2_with fail
        go_quiet (fail)
        have B2 := Lib.hid (below_drewN HB.out nq)
        clear m0 m1 HB
        generalize wr.drewN nq = w2 at B2 ⊢
        go_wp2_with fail
        go_roundw
        case rel => exact ⟨1, rfl, by omega, B2⟩
        case measure => simp [intOf]; omega
      · obtain ⟨j, rfl⟩ : ∃ j, k = j + 1 := ⟨k - 1, by omega⟩
        obtain ⟨t, ht⟩ := at_lt (show j < l.length by omega)
        obtain ⟨p', o', e', -, n0, n1⟩ := sp_at (H.out.below HB.out) ht
        cases e'
        have hst := nrm_next HN.out ht hs
        have d2 : decide (s.1 ≤ t.2) = false := decide_eq_false (by omega)
        have z : (0 : Int) < (j : Int) + 1 := by omega
        have gj : (j : Int) < (l.length : Int) := by omega
        have wj : IntKind.i64.wrap (j : Int) = (j : Int) := IntWalk.i64_in _ (by omega)
        rw [show ((j + 1 : Nat) : Int) = (j : Int) + 1 by omega] at gk ⊢
        have nj : ((j : Int) + 1).toNat = j + 1 := by omega
        have zj : (0 : Int) ≤ (j : Int) + 1 := by omega
        clear hs ht hv hst
        go_wp2_with fail
        go_quiet (fail)
        have B2 := Lib.hid (below_drewN HB.out nq)
        clear m0 m1 n0 n1 HB
        generalize wr.drewN nq = w2 at B2 ⊢
        go_wp2_with fail
        go_roundw
        case rel => exact ⟨j + 1 + 1, by go_num, by omega, B2⟩
        case measure => simp [intOf]; omega
    · have d : decide (k < l.length) = false := by rw [decide_eq_false_iff_not]; exact hlt
      clear hlt
      go_wp2_with fail
      go_ret
      exact ⟨rfl, HB.out⟩
theorem neq_span (x y : Int) (W : World) : (binOp .neq 27 (.agg #[.int .i64 x, .int .i64 y]) (.agg #[.int .i64 x, .int .i64 y])).run Try.prog W = .ok (.bool false) W := by
  have u3 := Try.underlying3
  have a3 := Try.isAgg3
  have z3 := Try.sizeOf3
  have hS : Try.prog.underlying 27 = some (.struct (Try.prog.fieldsOf 27)) := by kernel_rfl
  have hp : Try.prog.stoodInHeld 27 = false := by kernel_rfl
  rw [run_neq_struct, show (10000 : Nat) = 9999 + 1 from rfl, run_equalIn_agg W 9999 27 _ _ hS hp]
  simp only [Program.fieldsOf, Try.underlying27]
  go_simp
set_option maxRecDepth 100000 in
set_option maxHeartbeats 4000000 in
theorem same_any (va vb : Value) (l : List Sp) (hl : l.length ≤ 1000000) (w : World) (hA : LstV w va l) (hB : LstV w vb l) : Calls Try.prog 26 #[va, vb] w fun e w' => e = .returned (.bool true) ∧ Below w.heap.size w w' := by
  have hh := hA
  obtain ⟨A, ca, rfl, -⟩ := hh
  have hh := hB
  obtain ⟨B, cb, rfl, -⟩ := hh
  have HA := Lib.hid hA
  have HB := Lib.hid hB
  clear hA hB
  have d0 : ((l.length : Int) != (l.length : Int)) = false := neq_false rfl
  have gq : Try.prog.eqGuardType Try.prog.depth 27 = false := by kernel_rfl
  go_enter Try.func26, Try.ntmps26
  go_wp2_with fail
  go_loopw [5] (fun i wr => ∃ k : Nat, i = .int .i64 (k : Int) ∧ k ≤ l.length ∧ Hid (Below w.heap.size w wr)) (fun i _ => l.length - (intOf i).toNat)
  case atStart => exact ⟨0, rfl, Nat.zero_le _, Lib.hid (Below.refl _ _)⟩
  case round =>
    obtain ⟨k, rfl, hk, HW⟩ := hrel
    by_cases hlt : k < l.length
    · obtain ⟨s, hs⟩ := at_lt hlt
      obtain ⟨p, o, rfl, hp, m0, m1⟩ := sp_at (HA.out.below HW.out) hs
      obtain ⟨p', o', rfl, hp', n0, n1⟩ := sp_at (HB.out.below HW.out) hs
      have ga : (k : Int) < (l.length : Int) := by omega
      obtain ⟨x, y⟩ := s
      have NS := fun W => neq_span x y W
      clear hs
      go_wp2_with fail
      go_quiet (fail)
      have B2 := Lib.hid (below_drewN HW.out nq)
      clear m0 m1 n0 n1 HW
      generalize wr.drewN nq = w2 at B2 ⊢
      go_wp2_with fail
      go_roundw
      case rel => exact ⟨k + 1, by go_num, by omega, B2⟩
      case measure => simp [intOf]; omega
    · have d : decide (k < l.length) = false := by rw [decide_eq_false_iff_not]; exact hlt
      clear hlt
      go_wp2_with fail
      go_ret
      exact ⟨rfl, HW.out⟩
/-- All ends are between -2^40 and 2^40. -/
def bndS (l : List Sp) : Bool := l.all fun s => decide (-1099511627776 ≤ s.1 ∧ s.1 ≤ 1099511627776 ∧ -1099511627776 ≤ s.2 ∧ s.2 ≤ 1099511627776)
theorem bnd_next {l : List Sp} {k : Nat} {s : Sp} (h : l[k]? = some s) (hk : bndS (l.take k) = true) (hs : -1099511627776 ≤ s.1 ∧ s.1 ≤ 1099511627776 ∧ -1099511627776 ≤ s.2 ∧ s.2 ≤ 1099511627776) : bndS (l.take (k + 1)) = true := by
  unfold bndS at *
  rw [take_at l k s h, List.all_append, hk]
  simp [hs]
theorem bnd_stop {l : List Sp} {k : Nat} {s : Sp} (h : l[k]? = some s) (hs : ¬ (-1099511627776 ≤ s.1 ∧ s.1 ≤ 1099511627776 ∧ -1099511627776 ≤ s.2 ∧ s.2 ≤ 1099511627776)) : bndS l = false := by
  unfold bndS
  rw [List.all_eq_false]
  exact ⟨s, List.mem_iff_getElem?.2 ⟨k, h⟩, by simpa using hs⟩
set_option maxRecDepth 100000 in
set_option maxHeartbeats 4000000 in
theorem bounded_any (v : Value) (l : List Sp) (hl : l.length ≤ 1000000) (w : World) (h : LstV w v l) : Calls Try.prog 27 #[v] w fun e w' => e = .returned (.bool (bndS l)) ∧ w = w' := by
  have hh := h
  obtain ⟨A, c, rfl, -⟩ := hh
  have H := Lib.hid h
  clear h
  go_enter Try.func27, Try.ntmps27
  go_wp2_with fail
  go_loopw [3] (fun i wr => ∃ k : Nat, i = .int .i64 (k : Int) ∧ k ≤ l.length ∧ wr = w ∧ Hid (bndS (l.take k) = true)) (fun i _ => l.length - (intOf i).toNat)
  case atStart => exact ⟨0, rfl, Nat.zero_le _, rfl, Lib.hid rfl⟩
  case round =>
    obtain ⟨k, rfl, hk, hw, hm⟩ := hrel
    subst hw
    by_cases hlt : k < l.length
    · obtain ⟨s, hs⟩ := at_lt hlt
      obtain ⟨b, o, rfl, hb, m0, m1⟩ := sp_at H.out hs
      have gk : (k : Int) < (l.length : Int) := by omega
      have N := Lib.hid (bnd_next hs hm.out)
      have Y := Lib.hid (bnd_stop hs)
      obtain ⟨x, y⟩ := s
      clear hs
      rcases (by omega : x < -1099511627776 ∨ ¬ x < -1099511627776 ∧ 1099511627776 < x ∨ (¬ x < -1099511627776 ∧ ¬ 1099511627776 < x) ∧ y < -1099511627776 ∨ (¬ x < -1099511627776 ∧ ¬ 1099511627776 < x ∧ ¬ y < -1099511627776) ∧ 1099511627776 < y ∨ (¬ x < -1099511627776 ∧ ¬ 1099511627776 < x ∧ ¬ y < -1099511627776) ∧ ¬ 1099511627776 < y) with h1 | ⟨h1, h2⟩ | ⟨⟨h1, h2⟩, h3⟩ | ⟨⟨h1, h2, h3⟩, h4⟩ | ⟨⟨h1, h2, h3⟩, h4⟩
      · have R : Hid (bndS l = false) := Y.out (by simp only; omega)
        clear N Y hm
        go_wp2_with fail
        go_ret
        exact ⟨ret_bool R.out.symm, rfl⟩
      · have R : Hid (bndS l = false) := Y.out (by simp only; omega)
        have d1 := decide_eq_false h1
        clear N Y hm h1
        go_wp2_with fail
        go_ret
        exact ⟨ret_bool R.out.symm, rfl⟩
      · have R : Hid (bndS l = false) := Y.out (by simp only; omega)
        have d1 := decide_eq_false h1
        have d2 := decide_eq_false h2
        clear N Y hm h1 h2
        go_wp2_with fail
        go_ret
        exact ⟨ret_bool R.out.symm, rfl⟩
      · have R : Hid (bndS l = false) := Y.out (by simp only; omega)
        have d1 := decide_eq_false h1
        have d2 := decide_eq_false h2
        have d3 := decide_eq_false h3
        clear N Y hm h1 h2 h3
        go_wp2_with fail
        go_ret
        exact ⟨ret_bool R.out.symm, rfl⟩
      · have R : Hid (bndS (l.take (k + 1)) = true) := N.out (by simp only; omega)
        have d1 := decide_eq_false h1
        have d2 := decide_eq_false h2
        have d3 := decide_eq_false h3
        have d4 := decide_eq_false h4
        clear N Y hm h1 h2 h3 h4
        go_wp2_with fail
        go_roundw
        case rel => exact ⟨k + 1, by go_num, by omega, trivial, R⟩
        case measure => simp [intOf]; omega
    · have d : decide (k < l.length) = false := by rw [decide_eq_false_iff_not]; exact hlt
      have M : Hid (bndS l = true) := by
        have := hm.out
        rw [List.take_of_length_le (by omega)] at this
        exact this
      clear hlt hm
      go_wp2_with fail
      go_ret
      exact ⟨ret_bool M.out.symm, rfl⟩
theorem bnd_iff {l : List Sp} (h : bndS l = true) : ∀ s ∈ l, ((-1099511627776 : Int) ≤ s.1 ∧ s.1 ≤ -1099511627776 + ((2199023255552 : Nat) : Int)) ∧ (-1099511627776 : Int) ≤ s.2 ∧ s.2 ≤ -1099511627776 + ((2199023255552 : Nat) : Int) := by
  intro s hs
  unfold bndS at h
  have := List.all_eq_true.1 h s hs
  simp only [decide_eq_true_iff] at this
  omega
end Go.Proofs.Ytmlmdggfcdakhaa
