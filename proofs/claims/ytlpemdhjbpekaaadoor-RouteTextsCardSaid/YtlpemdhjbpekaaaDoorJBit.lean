/-
  The reference's Bit: what the call answers; the world is as it was. Condition: a bit from 0 to 7.
-/
import Derived.Test.YtlpemdhjbpekaaaDoorJPar
namespace Go.Proofs.YtlpemdhjbpekaaaDoor
open Go.RowKit

theorem wrap_word (n : Int) : IntKind.u64.wrap n = ((wordR n : Nat) : Int) := by
  rw [IntKind.wrap_u64, word_cast]
theorem bit_eq (s i : Nat) : (((s / 2 ^ i : Nat) : Int) % 2 == 1) = s.testBit i := by
  have h := bit_div s i
  cases ht : s.testBit i with
  | true =>
    have := h.2 ht
    exact beq_true (by omega)
  | false =>
    have : ¬ s / 2 ^ i % 2 = 1 := fun e => by rw [h.1 e] at ht; cases ht
    exact beq_false (by omega)
set_option maxRecDepth 100000 in
set_option maxHeartbeats 4000000 in
theorem rbit_any (n : Int) (i : Nat) (hi : i < 8) (w : World) : Calls Tryd.prog 34 #[.int .i64 n, .int .i64 (i : Int)] w fun e w' => e = .returned (.bool ((wordR n).testBit i)) ∧ w = w' := by
  have e1 := wrap_word n
  have e2 : IntKind.u64.wrap (i : Int) = (i : Int) := by rw [IntKind.wrap_u64]; omega
  have e3 : ((wordR n : Nat) : Int) / 2 ^ i = ((wordR n / 2 ^ i : Nat) : Int) := by rw [two_cast]; rfl
  have e4 := bit_eq (wordR n) i
  generalize (wordR n).testBit i = r at e4 ⊢
  generalize wordR n / 2 ^ i = q at e3 e4
  generalize ((wordR n : Nat) : Int) = x at e1 e3
  go_enter Tryd.func34, Tryd.ntmps34
  go_wp2_with fail
  go_ret
  exact ⟨rfl, rfl⟩
end Go.Proofs.YtlpemdhjbpekaaaDoor
