/-
  ParsePrice of package number and of its reference: what each call answers; nothing that existed before the call has changed behind it. Condition: a text of at most 4000 bytes; the library's variable ErrRange holds an error.
-/
import Derived.Test.YtaglpfilopcniaaDoorNPrice
namespace Go.Proofs.YtaglpfilopcniaaDoor
open Go.RowKit

/-! ### The program's -/
theorem pp_nat (s s1 s2 : ByteArray) (C : Hid (∀ w : World, Calls Tryd.prog 38 #[.string s] w fun e w' => e = .returned (.tuple #[.string s1, .string s2]) ∧ Below w.heap.size w w')) (N : Hid (∀ w : World, Calls Tryd.prog 31 #[.string s1] w fun e w' => e = .returned (.bool false) ∧ w = w')) (w : World) : Calls Tryd.prog 29 #[.string s] w fun e w' => e = .returned (.tuple #[.int .i64 0, .int .i64 3]) ∧ Below w.heap.size w w' := by
  go_enter Tryd.func29, Tryd.ntmps29
  go_wp2_with (first | (go_at_call 38; refine (C.out _).mono ?_; rintro e w1 ⟨rfl, b1⟩) | (go_at_call 31; refine (N.out _).mono ?_; rintro e w' ⟨rfl, rfl⟩))
  go_ret2
  exact ⟨rfl, b1⟩
theorem pp_len (s s1 s2 : ByteArray) (C : Hid (∀ w : World, Calls Tryd.prog 38 #[.string s] w fun e w' => e = .returned (.tuple #[.string s1, .string s2]) ∧ Below w.heap.size w w')) (N : Hid (∀ w : World, Calls Tryd.prog 31 #[.string s1] w fun e w' => e = .returned (.bool true) ∧ w = w')) (h : ((s2.size : Int) != 2) = true) (w : World) : Calls Tryd.prog 29 #[.string s] w fun e w' => e = .returned (.tuple #[.int .i64 0, .int .i64 3]) ∧ Below w.heap.size w w' := by
  go_enter Tryd.func29, Tryd.ntmps29
  go_wp2_with (first | (go_at_call 38; refine (C.out _).mono ?_; rintro e w1 ⟨rfl, b1⟩) | (go_at_call 31; refine (N.out _).mono ?_; rintro e w' ⟨rfl, rfl⟩))
  go_ret2
  exact ⟨rfl, b1⟩
theorem pp_digs (s s1 s2 : ByteArray) (C : Hid (∀ w : World, Calls Tryd.prog 38 #[.string s] w fun e w' => e = .returned (.tuple #[.string s1, .string s2]) ∧ Below w.heap.size w w')) (N : Hid (∀ w : World, Calls Tryd.prog 31 #[.string s1] w fun e w' => e = .returned (.bool true) ∧ w = w')) (h : ((s2.size : Int) != 2) = false) (D : Hid (∀ w : World, Calls Tryd.prog 39 #[.string s2] w fun e w' => e = .returned (.bool false) ∧ w = w')) (w : World) : Calls Tryd.prog 29 #[.string s] w fun e w' => e = .returned (.tuple #[.int .i64 0, .int .i64 3]) ∧ Below w.heap.size w w' := by
  go_enter Tryd.func29, Tryd.ntmps29
  go_wp2_with (first | (go_at_call 38; refine (C.out _).mono ?_; rintro e w1 ⟨rfl, b1⟩) | (go_at_call 31; refine (N.out _).mono ?_; rintro e w' ⟨rfl, rfl⟩) | (go_at_call 39; refine (D.out _).mono ?_; rintro e w' ⟨rfl, rfl⟩))
  go_ret2
  exact ⟨rfl, b1⟩
theorem pp_far (s s1 s2 : ByteArray) (C : Hid (∀ w : World, Calls Tryd.prog 38 #[.string s] w fun e w' => e = .returned (.tuple #[.string s1, .string s2]) ∧ Below w.heap.size w w')) (N : Hid (∀ w : World, Calls Tryd.prog 31 #[.string s1] w fun e w' => e = .returned (.bool true) ∧ w = w')) (h : ((s2.size : Int) != 2) = false) (D : Hid (∀ w : World, Calls Tryd.prog 39 #[.string s2] w fun e w' => e = .returned (.bool true) ∧ w = w')) (R : Hid (∀ w : World, Good w → Calls Tryd.prog 15 #[.string s1, .int .i64 0, .int .i64 10000] w fun e w' => e = .returned (.tuple #[.int .i64 0, .int .i64 2]) ∧ Below w.heap.size w w')) (w : World) (hg : Good w) : Calls Tryd.prog 29 #[.string s] w fun e w' => e = .returned (.tuple #[.int .i64 0, .int .i64 2]) ∧ Below w.heap.size w w' := by
  go_enter Tryd.func29, Tryd.ntmps29
  go_wp2_with (first | (go_at_call 38; refine (C.out _).mono ?_; rintro e w1 ⟨rfl, b1⟩) | (go_at_call 31; refine (N.out _).mono ?_; rintro e w' ⟨rfl, rfl⟩) | (go_at_call 39; refine (D.out _).mono ?_; rintro e w' ⟨rfl, rfl⟩) | (go_at_call 15; refine (rel (W := w) (R.out _ (hg.below b1)) b1).mono ?_; rintro e w2 ⟨rfl, b2⟩))
  go_ret2
  exact ⟨rfl, b2⟩
theorem pp_pay (s s1 s2 : ByteArray) (C : Hid (∀ w : World, Calls Tryd.prog 38 #[.string s] w fun e w' => e = .returned (.tuple #[.string s1, .string s2]) ∧ Below w.heap.size w w')) (N : Hid (∀ w : World, Calls Tryd.prog 31 #[.string s1] w fun e w' => e = .returned (.bool true) ∧ w = w')) (h : ((s2.size : Int) != 2) = false) (D : Hid (∀ w : World, Calls Tryd.prog 39 #[.string s2] w fun e w' => e = .returned (.bool true) ∧ w = w')) (u : Int) (u0 : 0 ≤ u) (u1 : u ≤ 10000) (R : Hid (∀ w : World, Good w → Calls Tryd.prog 15 #[.string s1, .int .i64 0, .int .i64 10000] w fun e w' => e = .returned (.tuple #[.int .i64 u, .int .i64 0]) ∧ Below w.heap.size w w')) (a b : UInt8) (a0 : 48 ≤ a.toNat) (a1 : a.toNat ≤ 57) (b0 : 48 ≤ b.toNat) (b1 : b.toNat ≤ 57)
    (ka : ∀ W, (Instr.index 9 (.string s2) (.int .i64 0)).run Tryd.prog W = .ok (.int .u8 a.toNat) W) (kb : ∀ W, (Instr.index 9 (.string s2) (.int .i64 1)).run Tryd.prog W = .ok (.int .u8 b.toNat) W)
    (n c : Int) (hr : (if u * 100 + ((a.toNat : Int) - 48) * 10 + ((b.toNat : Int) - 48) ≤ 1000000 then (u * 100 + ((a.toNat : Int) - 48) * 10 + ((b.toNat : Int) - 48), (0 : Int)) else (0, 2)) = (n, c)) (w : World) (hg : Good w) : Calls Tryd.prog 29 #[.string s] w fun e w' => e = .returned (.tuple #[.int .i64 n, .int .i64 c]) ∧ Below w.heap.size w w' := by
  by_cases hp : u * 100 + ((a.toNat : Int) - 48) * 10 + ((b.toNat : Int) - 48) ≤ 1000000
  · rw [if_pos hp] at hr
    obtain ⟨rfl, rfl⟩ := Prod.mk.inj hr
    clear hr
    go_enter Tryd.func29, Tryd.ntmps29
    go_wp2_with (first | (go_at_call 38; refine (C.out _).mono ?_; rintro e w1 ⟨rfl, b1⟩) | (go_at_call 31; refine (N.out _).mono ?_; rintro e w' ⟨rfl, rfl⟩) | (go_at_call 39; refine (D.out _).mono ?_; rintro e w' ⟨rfl, rfl⟩) | (go_at_call 15; refine (rel (W := w) (R.out _ (hg.below b1)) b1).mono ?_; rintro e w2 ⟨rfl, b2⟩))
    go_quiet (fail)
    go_wp2_with fail
    go_ret2
    exact ⟨rfl, below_drewN b2 _⟩
  · rw [if_neg hp] at hr
    obtain ⟨rfl, rfl⟩ := Prod.mk.inj hr
    clear hr
    have hq : 1000000 < u * 100 + ((a.toNat : Int) - 48) * 10 + ((b.toNat : Int) - 48) := by omega
    clear hp
    go_enter Tryd.func29, Tryd.ntmps29
    go_wp2_with (first | (go_at_call 38; refine (C.out _).mono ?_; rintro e w1 ⟨rfl, b1⟩) | (go_at_call 31; refine (N.out _).mono ?_; rintro e w' ⟨rfl, rfl⟩) | (go_at_call 39; refine (D.out _).mono ?_; rintro e w' ⟨rfl, rfl⟩) | (go_at_call 15; refine (rel (W := w) (R.out _ (hg.below b1)) b1).mono ?_; rintro e w2 ⟨rfl, b2⟩))
    go_quiet (fail)
    go_wp2_with fail
    go_ret2
    exact ⟨rfl, below_drewN b2 _⟩
theorem bef_len (l : List UInt8) : (bef l).length ≤ l.length := by
  unfold bef
  exact (List.takeWhile_sublist _).length_le
theorem beh_len (l : List UInt8) : (beh l).length ≤ l.length := by
  unfold beh
  have := (List.dropWhile_sublist (l := l) noStop).length_le
  simp
  omega
/-- Digits without leading zeros are read as their number, or lie beyond the ints. -/
theorem nat_formed {b : List UInt8} (h : nat b = true) : formed b = true ∧ sgn b = (valN b : Int) := by
  obtain ⟨c, r, rfl, h1, h2⟩ := nat_head h
  have hc : c ≠ 45 := by intro e; subst e; simp at h1
  have hg : neg (c :: r) = false := by simp [neg, hc]
  have hb := body_pos (c :: r) hg
  unfold formed sgn
  rw [hb, h, if_neg (by simp [hg])]
  exact ⟨by simp [hc], rfl⟩
theorem nat_num {b : List UInt8} (h : nat b = true) : numR b = if valN b ≤ 9223372036854775807 then ((valN b : Int), 0) else (0, 2) := by
  obtain ⟨h1, h2⟩ := nat_formed h
  by_cases hv : valN b ≤ 9223372036854775807
  · rw [if_pos hv, numR_ok h1 (by rw [h2, fits_iff]; omega), h2]
  · rw [if_neg hv, numR_range h1 (by rw [h2]; simp [fits]; omega)]
theorem nat_rng {b : List UInt8} (h : nat b = true) : rngR b 0 10000 = if valN b ≤ 10000 then ((valN b : Int), 0) else (0, 2) := by
  unfold rngR
  rw [nat_num h]
  by_cases hv : valN b ≤ 9223372036854775807
  · rw [if_pos hv]
    simp only [if_true]
    by_cases h2 : valN b ≤ 10000
    · rw [if_pos h2, if_pos (by omega)]
    · rw [if_neg h2, if_neg (by omega)]
  · rw [if_neg hv, if_neg (by decide), if_neg (by omega)]
theorem worth_two (l : List UInt8) (a b : UInt8) (hb : beh l = [a, b]) (da : dig a = true) (db : dig b = true) : (worth l : Int) = (valN (bef l) : Int) * 100 + ((a.toNat : Int) - 48) * 10 + ((b.toNat : Int) - 48) := by
  have h1 := (dig_iff a).1 da
  have h2 := (dig_iff b).1 db
  unfold worth
  rw [hb, val_pair]
  omega
theorem price_eq (l : List UInt8) (h : priced l = true) (a b : UInt8) (hb : beh l = [a, b]) (da : dig a = true) (db : dig b = true) :
    (if (valN (bef l) : Int) * 100 + ((a.toNat : Int) - 48) * 10 + ((b.toNat : Int) - 48) ≤ 1000000 then ((valN (bef l) : Int) * 100 + ((a.toNat : Int) - 48) * 10 + ((b.toNat : Int) - 48), (0 : Int)) else (0, 2)) = ((priceR l).1, (priceR l).2) := by
  have e := worth_two l a b hb da db
  unfold priceR
  rw [if_pos h, ← e]
  by_cases hw : worth l ≤ 1000000
  · rw [if_pos hw, if_pos (by omega)]
  · rw [if_neg hw, if_neg (by omega)]
theorem pprice_any (l : List UInt8) (hs : l.length ≤ 4000) (w : World) (hg : Good w) : Calls Tryd.prog 29 #[.string (str l)] w fun e w' => e = .returned (.tuple #[.int .i64 ((priceR l).1), .int .i64 ((priceR l).2)]) ∧ Below w.heap.size w w' := by
  have h1 := bef_len l
  have h2 := beh_len l
  have C := Lib.hid (fun w => cut_any l (by omega) w)
  have N := Lib.hid (fun w => natural_any (bef l) (by omega) w)
  have D := Lib.hid (fun w => allDigits_any (str (beh l)) (by rw [size_str]; omega) w)
  rw [show (str (beh l)).data.toList = beh l from rfl] at D
  have R := Lib.hid (fun w hg => prange_any (bef l) (by omega) 0 10000 w hg)
  have hz := size_str (beh l)
  cases hn : nat (bef l) with
  | false =>
    rw [hn] at N
    have e : priceR l = (0, 3) := by unfold priceR priced; rw [hn]; rfl
    rw [e]
    exact pp_nat _ _ _ C N w
  | true =>
    rw [hn] at N
    by_cases hl : (beh l).length = 2
    · have q : (((str (beh l)).size : Int) != 2) = false := neq_false (by omega)
      cases hd : digs (beh l) with
      | false =>
        rw [hd] at D
        have e : priceR l = (0, 3) := by unfold priceR priced; rw [hd]; simp
        rw [e]
        exact pp_digs _ _ _ C N q D w
      | true =>
        rw [hd] at D
        have hp : priced l = true := by unfold priced; rw [hn, hd]; simp [hl]
        obtain ⟨a, b, hb, da, db⟩ := beh_two hp
        have e := price_eq l hp a b hb da db
        rw [nat_rng hn] at R
        by_cases hv : valN (bef l) ≤ 10000
        · rw [if_pos hv] at R
          have d1 := (dig_iff a).1 da
          have d2 := (dig_iff b).1 db
          exact pp_pay _ _ _ C N q D (valN (bef l) : Int) (by omega) (by omega) R a b d1.1 d1.2 d2.1 d2.2 (fun W => idx_run (beh l) 0 a (by rw [hb]; rfl) 0 rfl W) (fun W => idx_run (beh l) 1 b (by rw [hb]; rfl) 1 rfl W) _ _ e w hg
        · rw [if_neg hv] at R
          have hw : ¬ worth l ≤ 1000000 := by unfold worth; omega
          have e : priceR l = (0, 2) := by unfold priceR; rw [if_pos hp, if_neg hw]
          rw [e]
          exact pp_far _ _ _ C N q D R w hg
    · have q : (((str (beh l)).size : Int) != 2) = true := bne_true (by omega)
      have e : priceR l = (0, 3) := by unfold priceR priced; rw [show ((beh l).length == 2) = false by simpa using hl]; simp
      rw [e]
      exact pp_len _ _ _ C N q w
end Go.Proofs.YtaglpfilopcniaaDoor
