/-
  Whether a time is at most so many seconds after another one: isWithin of package product, soon of its reference: what each call answers; the world is as it was. Condition: times and seconds of 64 bits.
-/
import Derived.Test.YtkpmmojfnhfflaaPdS
namespace Go.Proofs.Ytkpmmojfnhfflaa
open Go.RowKit

set_option maxRecDepth 100000 in
set_option maxHeartbeats 4000000 in
theorem kwit_any (a b s : Int) (ha : Ix64 a) (hb : Ix64 b) (hs : Ix64 s) (w : World) : Calls Try.prog 28 #[.int .i64 a, .int .i64 b, .int .i64 s] w fun e w' => e = .returned (.bool (decide (b - a ≤ s))) ∧ w = w' := by
  unfold Ix64 at ha hb hs
  obtain ⟨L, hL⟩ : ∃ L, wrap64 (a + s) = L := ⟨_, rfl⟩
  have hL2 := hL
  unfold wrap64 at hL2
  by_cases h1 : a < L
  · by_cases h2 : 0 < s
    · have g : (!(decide (a < L) == decide (0 < s))) = false := by rw [decide_eq_true h1, decide_eq_true h2]; rfl
      have R := Lib.hid (show decide (b ≤ L) = decide (b - a ≤ s) from decide_eq_decide.2 (by omega))
      clear hL2 h1 h2
      go_enter Try.func28, Try.ntmps28
      go_wp2_with fail
      go_ret
      exact ⟨ret_bool R.out, rfl⟩
    · have g : (!(decide (a < L) == decide (0 < s))) = true := by rw [decide_eq_true h1, decide_eq_false h2]; rfl
      have R := Lib.hid (show decide (0 < s) = decide (b - a ≤ s) from decide_eq_decide.2 (by omega))
      clear hL2 h1 h2
      go_enter Try.func28, Try.ntmps28
      go_wp2_with fail
      go_ret
      exact ⟨ret_bool R.out, rfl⟩
  · by_cases h2 : 0 < s
    · have g : (!(decide (a < L) == decide (0 < s))) = true := by rw [decide_eq_false h1, decide_eq_true h2]; rfl
      have R := Lib.hid (show decide (0 < s) = decide (b - a ≤ s) from decide_eq_decide.2 (by omega))
      clear hL2 h1 h2
      go_enter Try.func28, Try.ntmps28
      go_wp2_with fail
      go_ret
      exact ⟨ret_bool R.out, rfl⟩
    · have g : (!(decide (a < L) == decide (0 < s))) = false := by rw [decide_eq_false h1, decide_eq_false h2]; rfl
      have R := Lib.hid (show decide (b ≤ L) = decide (b - a ≤ s) from decide_eq_decide.2 (by omega))
      clear hL2 h1 h2
      go_enter Try.func28, Try.ntmps28
      go_wp2_with fail
      go_ret
      exact ⟨ret_bool R.out, rfl⟩
set_option maxRecDepth 100000 in
set_option maxHeartbeats 4000000 in
theorem rsoon_any (a b s : Int) (ha : Ix64 a) (hb : Ix64 b) (hs : Ix64 s) (w : World) : Calls Try.prog 37 #[.int .i64 a, .int .i64 b, .int .i64 s] w fun e w' => e = .returned (.bool (decide (b - a ≤ s))) ∧ w = w' := by
  unfold Ix64 at ha hb hs
  by_cases h : a ≤ b
  · by_cases h2 : 0 ≤ s
    · go_enter Try.func37, Try.ntmps37
      go_wp2_with fail
      go_ret
      exact ⟨ret_bool (by rw [IntKind.wrap_u64, IntKind.wrap_u64, IntKind.wrap_u64]; exact decide_eq_decide.2 (by omega)), rfl⟩
    · have g2 : decide (0 ≤ s) = false := decide_eq_false h2
      have R := Lib.hid (show false = decide (b - a ≤ s) from (decide_eq_false (by omega)).symm)
      clear h2
      go_enter Try.func37, Try.ntmps37
      go_wp2_with fail
      go_ret
      exact ⟨ret_bool R.out, rfl⟩
  · have g : decide (a ≤ b) = false := decide_eq_false h
    by_cases h2 : 0 ≤ s
    · have R := Lib.hid (show true = decide (b - a ≤ s) from (decide_eq_true (by omega)).symm)
      clear h
      go_enter Try.func37, Try.ntmps37
      go_wp2_with fail
      go_ret
      exact ⟨ret_bool R.out, rfl⟩
    · have g2 : decide (0 ≤ s) = false := decide_eq_false h2
      obtain ⟨z, hz⟩ : ∃ z, z = a - b := ⟨_, rfl⟩
      obtain ⟨y, hy⟩ : ∃ y, y = -s := ⟨_, rfl⟩
      have e1 : wrap64 (s + 1) = s + 1 := by unfold wrap64; omega
      have e2 : wrap64 (-(s + 1)) = -(s + 1) := by unfold wrap64; omega
      have e3 : IntKind.u64.wrap (-(s + 1)) = -(s + 1) := by rw [IntKind.wrap_u64]; omega
      have e4 : IntKind.u64.wrap (-(s + 1) + 1) = y := by rw [IntKind.wrap_u64]; omega
      have e5 : IntKind.u64.wrap (IntKind.u64.wrap a - IntKind.u64.wrap b) = z := by rw [IntKind.wrap_u64, IntKind.wrap_u64, IntKind.wrap_u64]; omega
      have R := Lib.hid (show decide (y ≤ z) = decide (b - a ≤ s) from decide_eq_decide.2 (by omega))
      clear hz hy h h2
      go_enter Try.func37, Try.ntmps37
      go_wp2_with fail
      go_ret
      exact ⟨ret_bool R.out, rfl⟩
end Go.Proofs.Ytkpmmojfnhfflaa
