/-
  The decimal form of an integer: package number's and its reference's: what each call answers; nothing that existed before the call has changed behind it. Condition: an integer of 64 bits.
-/
import Derived.Test.YtaglpfilopcniaaDoorNText
namespace Go.Proofs.YtaglpfilopcniaaDoor
open Go.RowKit

/-- The digits of a number that is not zero; none of zero. -/
def pre (k : Nat) : List UInt8 := if k = 0 then [] else Lib.decDigits k
/-- The last digit of a number, as a byte. -/
def cod (k : Nat) : UInt8 := UInt8.ofNat (48 + k % 10)
theorem pre_step (k : Nat) (h : 0 < k) : pre k = pre (k / 10) ++ [cod k] := by
  unfold pre cod
  rw [if_neg (by omega)]
  by_cases hs : k < 10
  · rw [if_pos (by omega), Lib.decDigits_one hs, show k % 10 = k by omega]; rfl
  · rw [if_neg (by omega), dd_step k hs]
theorem dd_19 (N : Nat) (h : N ≤ 9223372036854775808) : (Lib.decDigits N).length ≤ 19 := dd_len N 19 (by decide) (Nat.lt_of_le_of_lt h (by decide))
theorem tmod_ten (y : Int) (k : Nat) (h : y = -(k : Int)) : wrap64 (-y.tmod 10) = ((k % 10 : Nat) : Int) := by
  rw [h, Int.neg_tmod, Int.neg_neg, Int.tmod_eq_emod_of_nonneg (by omega)]
  unfold wrap64
  omega
theorem tdiv_ten (y : Int) (k : Nat) (h : y = -(k : Int)) : y.tdiv 10 = -((k / 10 : Nat) : Int) := by
  rw [h, Int.neg_tdiv, Int.tdiv_eq_ediv_of_nonneg (by omega)]
  omega
theorem rformat_neg (n : Int) (N : Nat) (hn : n = -(N : Int)) (h0 : n < 0) (h1 : -9223372036854775808 ≤ n) (w : World) : Calls Tryd.prog 12 #[.int .i64 n] w fun e w' => e = .returned (.string (str (45 :: Lib.decDigits N))) ∧ w = w' := by
  have HN := Lib.hid hn
  have H19 := Lib.hid (dd_19 N (by omega))
  clear hn
  go_enter Tryd.func12, Tryd.ntmps12
  go_wp2_with fail
  go_loop [0, 3] (fun x s => ∃ (y : Int) (k : Nat) (l : List UInt8), x = .int .i64 y ∧ s = .string (str l) ∧ -9223372036854775808 ≤ y ∧ y ≤ 0 ∧ Hid (y = -(k : Int)) ∧ l.length ≤ 20 ∧ Hid (pre k ++ l = Lib.decDigits N)) (fun x _ => (-(intOf x)).toNat)
  case atStart => exact ⟨n, N, [], rfl, rfl, by omega, by omega, HN, by simp, Lib.hid (by have := HN.out; unfold pre; rw [if_neg (by omega)]; simp)⟩
  case round =>
    obtain ⟨y, k, l, rfl, rfl, y0, y1, hy, hl, he⟩ := hrel
    have hz := size_str l
    by_cases hlt : y < 0
    · have D : Hid (∀ w : World, Calls Tryd.prog 34 #[.int .i64 (wrap64 (-y.tmod 10))] w fun e w' => e = .returned (.string (str [cod k])) ∧ w = w') := by
        refine Lib.hid fun w => ?_
        rw [tmod_ten y k hy.out]
        exact rdigit_any (k % 10) (by omega) w
      have hz1 := size_str [cod k]
      have Y := Lib.hid (tdiv_ten y k hy.out)
      have P := Lib.hid (pre_step k (by have := hy.out; omega))
      go_wp2_with (go_at_call 34; refine (D.out _).mono ?_; rintro e w' ⟨rfl, rfl⟩)
      go_round
      case rel =>
        refine ⟨_, k / 10, cod k :: l, rfl, by rw [str_app]; rfl, ?_, ?_, Y, ?_, Lib.hid ?_⟩
        · have := hy.out; rw [Y.out]; omega
        · rw [Y.out]; omega
        · have := congrArg List.length he.out
          have h19 := H19.out
          rw [P.out] at this
          simp at this ⊢
          omega
        · rw [← he.out, P.out]; simp
      case measure => have := hy.out; have := Y.out; simp [intOf]; omega
    · go_wp2_with fail
      go_ret
      refine ⟨ret_sstr ?_, rfl⟩
      have e0 : k = 0 := by have := hy.out; omega
      have := he.out
      rw [e0] at this
      rw [str_app, ← this]
      rfl
/-- The loop that takes the digits off a number that is not negative. -/
theorem rformat_pos (n : Int) (N : Nat) (hn : n = (N : Int)) (h0 : 0 ≤ n) (h1 : n ≤ 9223372036854775807) (w : World) : Calls Tryd.prog 12 #[.int .i64 n] w fun e w' => e = .returned (.string (str (Lib.decDigits N))) ∧ w = w' := by
  have HN := Lib.hid hn
  have H19 := Lib.hid (dd_19 N (by omega))
  have D0 : Hid (∀ w : World, Calls Tryd.prog 34 #[.int .i64 (n % 10)] w fun e w' => e = .returned (.string (str [cod N])) ∧ w = w') := by
    refine Lib.hid fun w => ?_
    rw [hn, show (N : Int) % 10 = ((N % 10 : Nat) : Int) by omega]
    exact rdigit_any (N % 10) (by omega) w
  clear hn
  go_enter Tryd.func12, Tryd.ntmps12
  go_wp2_with (go_at_call 34; refine (D0.out _).mono ?_; rintro e w' ⟨rfl, rfl⟩)
  go_loop [0, 4] (fun x s => ∃ (y : Int) (k : Nat) (l : List UInt8), x = .int .i64 y ∧ s = .string (str l) ∧ 0 ≤ y ∧ y ≤ 9223372036854775807 ∧ Hid (y = (k : Int)) ∧ l.length ≤ 20 ∧ Hid (pre (k / 10) ++ l = Lib.decDigits N)) (fun x _ => (intOf x).toNat)
  case atStart =>
    refine ⟨n, N, [cod N], rfl, rfl, by omega, by omega, HN, by simp, Lib.hid ?_⟩
    by_cases hz : N = 0
    · subst hz
      rw [Lib.decDigits_one (by decide)]
      rfl
    · rw [← pre_step N (by omega)]
      unfold pre
      rw [if_neg hz]
  case round =>
    obtain ⟨y, k, l, rfl, rfl, y0, y1, hy, hl, he⟩ := hrel
    have hz := size_str l
    by_cases hlt : 9 < y
    · have D : Hid (∀ w : World, Calls Tryd.prog 34 #[.int .i64 (y / 10 % 10)] w fun e w' => e = .returned (.string (str [cod (k / 10)])) ∧ w = w') := by
        refine Lib.hid fun w => ?_
        rw [hy.out, show (k : Int) / 10 % 10 = ((k / 10 % 10 : Nat) : Int) by omega]
        exact rdigit_any (k / 10 % 10) (by omega) w
      have hz1 := size_str [cod (k / 10)]
      have P := Lib.hid (pre_step (k / 10) (by have := hy.out; omega))
      go_wp2_with (go_at_call 34; refine (D.out _).mono ?_; rintro e w' ⟨rfl, rfl⟩)
      go_round
      case rel =>
        refine ⟨_, k / 10, cod (k / 10) :: l, rfl, by rw [str_app]; rfl, by omega, by omega, Lib.hid (by have := hy.out; omega), ?_, Lib.hid ?_⟩
        · have := congrArg List.length he.out
          have h19 := H19.out
          rw [P.out] at this
          simp at this ⊢
          omega
        · rw [← he.out, P.out]; simp
      case measure => have := hy.out; simp [intOf]; omega
    · have hle : y ≤ 9 := by omega
      go_wp2_with fail
      go_ret
      refine ⟨ret_sstr ?_, rfl⟩
      have := he.out
      rw [show k / 10 = 0 by have := hy.out; omega] at this
      exact congrArg str this
theorem rformat_any (n : Int) (h0 : -9223372036854775808 ≤ n) (h1 : n ≤ 9223372036854775807) (w : World) : Calls Tryd.prog 12 #[.int .i64 n] w fun e w' => e = .returned (.string (str (Lib.itoa n))) ∧ w = w' := by
  by_cases h : n < 0
  · rw [itoa_neg n h]
    exact rformat_neg n n.natAbs (by omega) h h0 w
  · rw [itoa_pos n (by omega)]
    exact rformat_pos n n.toNat (by omega) (by omega) h1 w
end Go.Proofs.YtaglpfilopcniaaDoor
