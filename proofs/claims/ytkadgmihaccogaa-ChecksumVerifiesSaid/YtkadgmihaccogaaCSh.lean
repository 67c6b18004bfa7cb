/-
  Shifting a byte into a number of 32 bits, as the program and the reference do it: what each call answers; it changes nothing. Condition: numbers below 2^32.
-/
import Derived.Test.YtkadgmihaccogaaLstB
import Derived.Test.YtkadgmihaccogaaCrc
import Derived.Laws.BitsAllLaws
import Derived.IntWalk
namespace Go.Proofs.Ytkadgmihaccogaa
open Go.RowKit

theorem ret_n {k : IntKind} {a b : Nat} (h : a = b) : Ending.returned (.int k (a : Int)) = .returned (.int k (b : Int)) := by rw [h]
theorem and_1 (q : Nat) (hq : W32 q) : bits .and .u32 (q : Int) 1 = ((q % 2 : Nat) : Int) := by
  have h := u32_and_nat q 1 hq (by decide)
  rw [nat_mask1] at h
  exact h
theorem poly_xor (q : Nat) (hq : W32 q) : bits .xor .u32 (q : Int) 3988292384 = ((q ^^^ poly : Nat) : Int) := u32_xor_nat q poly hq poly_lt
theorem half (q : Nat) : ((q : Int) / 2) = ((q / 2 : Nat) : Int) := (Int.natCast_ediv q 2).symm
theorem sh1_odd {q : Nat} (h : q % 2 = 1) : sh1 q = (q / 2) ^^^ poly := if_pos h
theorem sh1_even {q : Nat} (h : q % 2 = 0) : sh1 q = q / 2 := if_neg (by omega)

set_option maxHeartbeats 1000000 in
theorem shift_any (c : Nat) (hc : W32 c) (w : World) : Calls Try.prog 27 #[.int .u32 (c : Int)] w fun e w' => e = .returned (.int .u32 ((shN 8 c : Nat) : Int)) ∧ w = w' := by
  have HC := Lib.hid hc
  clear hc
  go_enter Try.func27, Try.ntmps27
  go_wp2_with fail
  go_loop [0, 3, 4] (fun v _ i => ∃ k q : Nat, i = .int .i64 k ∧ k ≤ 8 ∧ v = .int .u32 q ∧ Hid (q = shN k c)) (fun _ _ i => 8 - (intOf i).toNat)
  case atStart => exact ⟨0, c, rfl, Nat.zero_le _, rfl, Lib.hid rfl⟩
  case round =>
    obtain ⟨k, q, rfl, hk, rfl, hq⟩ := hrel
    have hw : W32 q := by rw [hq.out]; exact shN_lt k HC.out
    by_cases hlt : k < 8
    · have gk : (k : Int) < 8 := by omega
      have ea := and_1 q hw
      have eh := half q
      rcases Nat.mod_two_eq_zero_or_one q with hb | hb
      · have h2 : Hid (q / 2 = shN (k + 1) c) := by
          show _ = _
          rw [shN_succ, ← hq.out, sh1_even hb]
        rw [hb] at ea
        generalize q / 2 = r at eh h2
        clear hb hq hw
        go_wp2_with fail
        go_round
        case rel => exact ⟨k + 1, r, by go_num, by omega, rfl, h2⟩
        case measure => simp [intOf]; omega
      · have h2 : Hid ((q / 2) ^^^ poly = shN (k + 1) c) := by
          show _ = _
          rw [shN_succ, ← hq.out, sh1_odd hb]
        have hr : W32 (q / 2) := by unfold W32 at *; omega
        have ex := poly_xor (q / 2) hr
        rw [hb] at ea
        generalize (q / 2) ^^^ poly = r2 at ex h2
        generalize q / 2 = r at eh ex
        clear hb hq hw hr
        go_wp2_with fail
        go_round
        case rel => exact ⟨k + 1, r2, by go_num, by omega, rfl, h2⟩
        case measure => simp [intOf]; omega
    · have d : decide ((k : Int) < 8) = false := decide_eq_false (by omega)
      have R := Lib.hid (show q = shN 8 c by rw [hq.out, show k = 8 by omega])
      clear hlt hq hw
      go_wp2_with fail
      go_ret
      exact ⟨ret_n R.out, rfl⟩

set_option maxHeartbeats 1000000 in
theorem rshift_any (c : Nat) (x : UInt8) (hc : W32 c) (w : World) : Calls Try.prog 24 #[.int .u32 (c : Int), .int .u8 (x.toNat : Int)] w fun e w' => e = .returned (.int .u32 ((inB c x : Nat) : Int)) ∧ w = w' := by
  have hx := UInt8.toNat_lt x
  have e0 := u32_xor_nat c x.toNat hc (by omega)
  have hc2 : W32 (c ^^^ x.toNat) := xor_lt hc (by unfold W32; omega)
  have ew : IntKind.u32.wrap (x.toNat : Int) = (x.toNat : Int) := by rw [IntKind.wrap_u32]; omega
  unfold inB
  generalize c ^^^ x.toNat = c2 at e0 hc2 ⊢
  generalize x.toNat = n at e0 ew hx ⊢
  have HC := Lib.hid hc2
  clear hc hc2
  go_enter Try.func24, Try.ntmps24
  go_wp2_with fail
  go_loop [0, 5, 6] (fun v i _ => ∃ k q : Nat, i = .int .i64 k ∧ k ≤ 8 ∧ v = .int .u32 q ∧ Hid (q = shN k c2)) (fun _ i _ => 8 - (intOf i).toNat)
  case atStart => exact ⟨0, c2, rfl, Nat.zero_le _, rfl, Lib.hid rfl⟩
  case round =>
    obtain ⟨k, q, rfl, hk, rfl, hq⟩ := hrel
    have hw : W32 q := by rw [hq.out]; exact shN_lt k HC.out
    by_cases hlt : k < 8
    · have gk : (k : Int) < 8 := by omega
      have ea := and_1 q hw
      have eh := half q
      rcases Nat.mod_two_eq_zero_or_one q with hb | hb
      · have h2 : Hid (q / 2 = shN (k + 1) c2) := by
          show _ = _
          rw [shN_succ, ← hq.out, sh1_even hb]
        rw [hb] at ea
        generalize q / 2 = r at eh h2
        clear hb hq hw
        go_wp2_with fail
        go_round
        case rel => exact ⟨k + 1, r, by go_num, by omega, rfl, h2⟩
        case measure => simp [intOf]; omega
      · have h2 : Hid ((q / 2) ^^^ poly = shN (k + 1) c2) := by
          show _ = _
          rw [shN_succ, ← hq.out, sh1_odd hb]
        have hr : W32 (q / 2) := by unfold W32 at *; omega
        have ex := poly_xor (q / 2) hr
        rw [hb] at ea
        generalize (q / 2) ^^^ poly = r2 at ex h2
        generalize q / 2 = r at eh ex
        clear hb hq hw hr
        go_wp2_with fail
        go_round
        case rel => exact ⟨k + 1, r2, by go_num, by omega, rfl, h2⟩
        case measure => simp [intOf]; omega
    · have d : decide ((k : Int) < 8) = false := decide_eq_false (by omega)
      have R := Lib.hid (show q = shN 8 c2 by rw [hq.out, show k = 8 by omega])
      clear hlt hq hw
      go_wp2_with fail
      go_ret
      exact ⟨ret_n R.out, rfl⟩
end Go.Proofs.Ytkadgmihaccogaa
