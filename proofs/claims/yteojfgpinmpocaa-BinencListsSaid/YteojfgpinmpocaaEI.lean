/-
  Integers, lengths and bools read: Int, length and Bool of package binenc and of the reference: what each call answers; nothing has changed. Condition: the slice's length and the limit are ints.
-/
import Derived.Test.YteojfgpinmpocaaERU
namespace Go.Proofs.Yteojfgpinmpocaa
open Go.RowKit

theorem ret3 {k : IntKind} {a b c x y z : Int} (h : a = x ∧ b = y ∧ c = z) : Ending.returned (.tuple #[.int k a, .int .i64 b, .int .i64 c]) = Ending.returned (.tuple #[.int k x, .int .i64 y, .int .i64 z]) := by rw [h.1, h.2.1, h.2.2]
theorem eq_one (y : Nat) : ((y : Int) == 1) = decide (y = 1) := by rw [Bool.eq_iff_iff, beq_iff_eq, decide_eq_true_iff]; omega
theorem ret_3b {a x : Bool} {b c y z : Int} (h : a = x ∧ b = y ∧ c = z) : Ending.returned (.tuple #[.bool a, .int .i64 b, .int .i64 c]) = Ending.returned (.tuple #[.bool x, .int .i64 y, .int .i64 z]) := by rw [h.1, h.2.1, h.2.2]
set_option maxRecDepth 100000 in
theorem int_any (v : Value) (l : List UInt8) (hl : l.length ≤ 9223372036854775807) (a : Int) (w : World) (h : LstB w v l) : Calls Try.prog 26 #[v, .int .i64 a] w fun e w' => e = .returned (.tuple #[.int .i64 ((rI l a).1), .int .i64 ((rI l a).2.1), .int .i64 ((rI l a).2.2)]) ∧ w = w' := by
  have M := Lib.hid (uint_any v l hl a w h)
  rcases rU_cases l a with ⟨e, hr, he⟩ | ⟨p, n, v, -, hr, -, -, hv, -⟩
  · rw [rI_bad hr (by omega)]
    rw [hr] at M
    have t1 : (e != 0) = true := bne_true (by omega)
    clear hr he
    go_enter Try.func26, Try.ntmps26
    go_wp2_with fail
    refine (M.out).mono ?_
    rintro e w' ⟨rfl, rfl⟩
    go_wp2_with fail
    go_ret3
    exact ⟨rfl, rfl⟩
  · rw [rI_good hr]
    rw [hr] at M
    generalize ((p + n : Nat) : Int) = q at M ⊢
    obtain ⟨z, hz⟩ : ∃ z, unz v = z := ⟨_, rfl⟩
    rw [hz]
    unfold unz at hz
    clear hr
    by_cases h2 : v % 2 = 0
    · rw [if_pos h2] at hz
      have t1 : ((v : Int) % 2 == 1) = false := beq_false (by omega)
      have HZ := Lib.hid hz
      clear h2 hz
      go_enter Try.func26, Try.ntmps26
      go_wp2_with fail
      refine (M.out).mono ?_
      rintro e w' ⟨rfl, rfl⟩
      go_wp2_with fail
      go_ret3
      exact ⟨ret3 (by have := HZ.out; omega), rfl⟩
    · rw [if_neg h2] at hz
      have t1 : ((v : Int) % 2 == 1) = true := beq_true (by omega)
      have HZ := Lib.hid hz
      clear h2 hz
      go_enter Try.func26, Try.ntmps26
      go_wp2_with fail
      refine (M.out).mono ?_
      rintro e w' ⟨rfl, rfl⟩
      go_wp2_with fail
      go_ret3
      exact ⟨ret3 (by have := HZ.out; omega), rfl⟩
set_option maxRecDepth 100000 in
theorem rint_any (v : Value) (l : List UInt8) (hl : l.length ≤ 9223372036854775807) (a : Int) (w : World) (h : LstB w v l) : Calls Try.prog 27 #[v, .int .i64 a] w fun e w' => e = .returned (.tuple #[.int .i64 ((rI l a).1), .int .i64 ((rI l a).2.1), .int .i64 ((rI l a).2.2)]) ∧ w = w' := by
  have M := Lib.hid (ruint_any v l hl a w h)
  rcases rU_cases l a with ⟨e, hr, he⟩ | ⟨p, n, v, -, hr, -, -, hv, -⟩
  · rw [rI_bad hr (by omega)]
    rw [hr] at M
    have t1 : (e != 0) = true := bne_true (by omega)
    clear hr he
    go_enter Try.func27, Try.ntmps27
    go_wp2_with fail
    refine (M.out).mono ?_
    rintro e w' ⟨rfl, rfl⟩
    go_wp2_with fail
    go_ret3
    exact ⟨rfl, rfl⟩
  · rw [rI_good hr]
    rw [hr] at M
    generalize ((p + n : Nat) : Int) = q at M ⊢
    obtain ⟨z, hz⟩ : ∃ z, unz v = z := ⟨_, rfl⟩
    rw [hz]
    unfold unz at hz
    clear hr
    by_cases h2 : v % 2 = 0
    · rw [if_pos h2] at hz
      have t1 : ((v : Int) % 2 == 0) = true := beq_true (by omega)
      have HZ := Lib.hid hz
      clear h2 hz
      go_enter Try.func27, Try.ntmps27
      go_wp2_with fail
      refine (M.out).mono ?_
      rintro e w' ⟨rfl, rfl⟩
      go_wp2_with fail
      go_ret3
      exact ⟨ret3 (by have := HZ.out; omega), rfl⟩
    · rw [if_neg h2] at hz
      have t1 : ((v : Int) % 2 == 0) = false := beq_false (by omega)
      have HZ := Lib.hid hz
      clear h2 hz
      go_enter Try.func27, Try.ntmps27
      go_wp2_with fail
      refine (M.out).mono ?_
      rintro e w' ⟨rfl, rfl⟩
      go_wp2_with fail
      go_ret3
      exact ⟨ret3 (by have := HZ.out; omega), rfl⟩
set_option maxRecDepth 100000 in
theorem len_any (v : Value) (l : List UInt8) (hl : l.length ≤ 9223372036854775807) (a m : Int) (hm : m ≤ 9223372036854775807) (w : World) (h : LstB w v l) : Calls Try.prog 39 #[v, .int .i64 a, .int .i64 m] w fun e w' => e = .returned (.tuple #[.int .i64 ((rN l a m).1 : Int), .int .i64 ((rN l a m).2.1), .int .i64 ((rN l a m).2.2)]) ∧ w = w' := by
  have M := Lib.hid (uint_any v l hl a w h)
  rcases rU_cases l a with ⟨e, hr, he⟩ | ⟨p, n, v, -, hr, -, -, hv, -⟩
  · rw [rN_bad hr (by omega)]
    rw [hr] at M
    have t1 : (e != 0) = true := bne_true (by omega)
    clear hr he
    go_enter Try.func39, Try.ntmps39
    go_wp2_with fail
    refine (M.out).mono ?_
    rintro e w' ⟨rfl, rfl⟩
    go_wp2_with fail
    go_ret3
    exact ⟨rfl, rfl⟩
  · rw [hr] at M
    by_cases h0 : m < 0
    · rw [rN_limit hr (Or.inl h0)]
      generalize ((p + n : Nat) : Int) = q at M ⊢
      clear hr
      go_enter Try.func39, Try.ntmps39
      go_wp2_with fail
      refine (M.out).mono ?_
      rintro e w' ⟨rfl, rfl⟩
      go_wp2_with fail
      go_ret3
      exact ⟨rfl, rfl⟩
    · have t0 : decide (m < 0) = false := decide_eq_false h0
      have k0 : 0 ≤ m := by omega
      by_cases h1 : m < (v : Int)
      · rw [rN_limit hr (Or.inr h1)]
        generalize ((p + n : Nat) : Int) = q at M ⊢
        clear hr h0
        go_enter Try.func39, Try.ntmps39
        go_wp2_with fail
        refine (M.out).mono ?_
        rintro e w' ⟨rfl, rfl⟩
        go_wp2_with fail
        go_ret3
        exact ⟨rfl, rfl⟩
      · have t1 : decide (m < (v : Int)) = false := decide_eq_false h1
        rw [rN_good hr (by omega)]
        have k1 : (v : Int) ≤ 9223372036854775807 := by omega
        generalize ((p + n : Nat) : Int) = q at M ⊢
        clear hr h0 h1
        go_enter Try.func39, Try.ntmps39
        go_wp2_with fail
        refine (M.out).mono ?_
        rintro e w' ⟨rfl, rfl⟩
        go_wp2_with fail
        go_ret3
        exact ⟨rfl, rfl⟩
set_option maxRecDepth 100000 in
theorem rlen_any (v : Value) (l : List UInt8) (hl : l.length ≤ 9223372036854775807) (a m : Int) (hm : m ≤ 9223372036854775807) (w : World) (h : LstB w v l) : Calls Try.prog 40 #[v, .int .i64 a, .int .i64 m] w fun e w' => e = .returned (.tuple #[.int .i64 ((rN l a m).1 : Int), .int .i64 ((rN l a m).2.1), .int .i64 ((rN l a m).2.2)]) ∧ w = w' := by
  have M := Lib.hid (ruint_any v l hl a w h)
  rcases rU_cases l a with ⟨e, hr, he⟩ | ⟨p, n, v, -, hr, -, -, hv, -⟩
  · rw [rN_bad hr (by omega)]
    rw [hr] at M
    have t1 : (e != 0) = true := bne_true (by omega)
    clear hr he
    go_enter Try.func40, Try.ntmps40
    go_wp2_with fail
    refine (M.out).mono ?_
    rintro e w' ⟨rfl, rfl⟩
    go_wp2_with fail
    go_ret3
    exact ⟨rfl, rfl⟩
  · rw [hr] at M
    by_cases h0 : m < 0
    · rw [rN_limit hr (Or.inl h0)]
      generalize ((p + n : Nat) : Int) = q at M ⊢
      clear hr
      go_enter Try.func40, Try.ntmps40
      go_wp2_with fail
      refine (M.out).mono ?_
      rintro e w' ⟨rfl, rfl⟩
      go_wp2_with fail
      go_ret3
      exact ⟨rfl, rfl⟩
    · have t0 : decide (m < 0) = false := decide_eq_false h0
      have k0 : 0 ≤ m := by omega
      by_cases h1 : m < (v : Int)
      · rw [rN_limit hr (Or.inr h1)]
        generalize ((p + n : Nat) : Int) = q at M ⊢
        clear hr h0
        go_enter Try.func40, Try.ntmps40
        go_wp2_with fail
        refine (M.out).mono ?_
        rintro e w' ⟨rfl, rfl⟩
        go_wp2_with fail
        go_ret3
        exact ⟨rfl, rfl⟩
      · have t1 : decide (m < (v : Int)) = false := decide_eq_false h1
        rw [rN_good hr (by omega)]
        have k1 : (v : Int) ≤ 9223372036854775807 := by omega
        generalize ((p + n : Nat) : Int) = q at M ⊢
        clear hr h0 h1
        go_enter Try.func40, Try.ntmps40
        go_wp2_with fail
        refine (M.out).mono ?_
        rintro e w' ⟨rfl, rfl⟩
        go_wp2_with fail
        go_ret3
        exact ⟨rfl, rfl⟩
theorem bool_any (v : Value) (l : List UInt8) (hl : l.length ≤ 9223372036854775807) (a : Int) (w : World) (h : LstB w v l) : Calls Try.prog 30 #[v, .int .i64 a] w fun e w' => e = .returned (.tuple #[.bool ((rT l a).1), .int .i64 ((rT l a).2.1), .int .i64 ((rT l a).2.2)]) ∧ w = w' := by
  by_cases ha : a < 0 ∨ (l.length : Int) < a
  · rw [rT_range ha]
    have M := Lib.hid (byte_range v l a w h ha)
    clear ha
    go_enter Try.func30, Try.ntmps30
    go_wp2_with fail
    refine (M.out).mono ?_
    rintro e w' ⟨rfl, rfl⟩
    go_wp2_with fail
    go_ret3
    exact ⟨rfl, rfl⟩
  · obtain ⟨p, rfl⟩ : ∃ p : Nat, a = p := ⟨a.toNat, by omega⟩
    by_cases hp : p < l.length
    · obtain ⟨x, hx⟩ := at_lt hp
      have M := Lib.hid (byte_in v l p x hx w h)
      rw [rT_at hx]
      have k : (p : Int) < 9223372036854775807 := by omega
      by_cases h1 : 1 < x.toNat
      · rw [if_pos h1]
        have t1 : (1 : Int) < (x.toNat : Int) := by omega
        generalize x.toNat = y at M t1
        clear hx h1 ha
        go_enter Try.func30, Try.ntmps30
        go_wp2_with fail
        refine (M.out).mono ?_
        rintro e w' ⟨rfl, rfl⟩
        go_wp2_with fail
        go_ret3
        exact ⟨rfl, rfl⟩
      · rw [if_neg h1]
        have t1 : decide ((1 : Int) < (x.toNat : Int)) = false := decide_eq_false (by omega)
        generalize x.toNat = y at M t1
        clear hx h1 ha
        go_enter Try.func30, Try.ntmps30
        go_wp2_with fail
        refine (M.out).mono ?_
        rintro e w' ⟨rfl, rfl⟩
        go_wp2_with fail
        go_ret3
        exact ⟨ret_3b ⟨eq_one y, rfl, rfl⟩, rfl⟩
    · obtain rfl : p = l.length := by omega
      rw [rT_end]
      have M := Lib.hid (byte_end v l w h)
      clear hp ha
      go_enter Try.func30, Try.ntmps30
      go_wp2_with fail
      refine (M.out).mono ?_
      rintro e w' ⟨rfl, rfl⟩
      go_wp2_with fail
      go_ret3
      exact ⟨rfl, rfl⟩
theorem rbool_any (v : Value) (l : List UInt8) (hl : l.length ≤ 9223372036854775807) (a : Int) (w : World) (h : LstB w v l) : Calls Try.prog 31 #[v, .int .i64 a] w fun e w' => e = .returned (.tuple #[.bool ((rT l a).1), .int .i64 ((rT l a).2.1), .int .i64 ((rT l a).2.2)]) ∧ w = w' := by
  by_cases ha : a < 0 ∨ (l.length : Int) < a
  · rw [rT_range ha]
    obtain ⟨A, c, rfl, -⟩ := h
    by_cases h0 : a < 0
    · clear ha
      go_enter Try.func31, Try.ntmps31
      go_wp2_with fail
      go_ret3
      exact ⟨rfl, rfl⟩
    · have g : decide (a < 0) = false := decide_eq_false h0
      have g2 : (l.length : Int) < a := ha.resolve_left h0
      clear ha h0
      go_enter Try.func31, Try.ntmps31
      go_wp2_with fail
      go_ret3
      exact ⟨rfl, rfl⟩
  · obtain ⟨p, rfl⟩ : ∃ p : Nat, a = p := ⟨a.toNat, by omega⟩
    obtain ⟨A, c, rfl, -, -, hcell⟩ := h
    have g0 : decide ((p : Int) < 0) = false := decide_eq_false (by omega)
    have g1 : decide ((l.length : Int) < (p : Int)) = false := decide_eq_false (by omega)
    have g2 : decide (l.length < p) = false := decide_eq_false (by omega)
    by_cases hp : p < l.length
    · obtain ⟨x, hx⟩ := at_lt hp
      obtain ⟨b, o, rfl, hb, hcc⟩ := hcell (by omega)
      have m := hcc p _ (bts_at l p x hx)
      have g4 : ((p : Int) == (l.length : Int)) = false := beq_false (by omega)
      have g5 : (p : Int) < (l.length : Int) := by omega
      rw [rT_at hx]
      have k : (p : Int) < 9223372036854775807 := by omega
      by_cases h1 : 1 < x.toNat
      · rw [if_pos h1]
        have t1 : (1 : Int) < (x.toNat : Int) := by omega
        generalize x.toNat = y at m t1
        clear hx h1 ha hcell hcc hb
        go_enter Try.func31, Try.ntmps31
        go_wp2_with fail
        go_ret3
        exact ⟨rfl, rfl⟩
      · rw [if_neg h1]
        have t1 : decide ((1 : Int) < (x.toNat : Int)) = false := decide_eq_false (by omega)
        generalize x.toNat = y at m t1
        clear hx h1 ha hcell hcc hb
        go_enter Try.func31, Try.ntmps31
        go_wp2_with fail
        go_ret3
        exact ⟨ret_3b ⟨eq_one y, rfl, rfl⟩, rfl⟩
    · obtain rfl : p = l.length := by omega
      rw [rT_end]
      have g4 : ((l.length : Int) == (l.length : Int)) = true := beq_true rfl
      clear hp ha hcell
      go_enter Try.func31, Try.ntmps31
      go_wp2_with fail
      go_ret3
      exact ⟨rfl, rfl⟩
end Go.Proofs.Yteojfgpinmpocaa
