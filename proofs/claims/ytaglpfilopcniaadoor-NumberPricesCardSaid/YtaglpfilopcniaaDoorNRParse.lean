/-
  The functions of package number's reference that read integers: what each call answers; the world is as it was. Condition: a text of at most 4096 bytes.
-/
import Derived.Test.YtaglpfilopcniaaDoorNParse
namespace Go.Proofs.YtaglpfilopcniaaDoor
open Go.RowKit

theorem valN_take_le (l : List UInt8) (k : Nat) : valN (l.take k) ≤ valN l := by
  have h : valN l = (l.drop k).foldl (fun n c => n * 10 + (c.toNat - 48)) (valN (l.take k)) := by
    unfold valN
    rw [← List.foldl_append, List.take_append_drop]
  rw [h]
  exact fold_le _ _
theorem low_tdiv (c : Int) (h0 : 0 ≤ c) (h1 : c ≤ 9) : (-9223372036854775808 + c).tdiv 10 = -((9223372036854775808 - c) / 10) := by
  rw [show (-9223372036854775808 + c) = -(9223372036854775808 - c) by omega, Int.neg_tdiv, Int.tdiv_eq_ediv_of_nonneg (by omega)]
/-- One digit more: the number with the minus sign, before and behind it. -/
theorem digit_on (s : ByteArray) (k : Nat) (h : k < s.size) (y : Int) (hy : y = -(valN (s.data.toList.take k) : Int)) (hc : 48 ≤ s[k].toNat ∧ s[k].toNat ≤ 57) :
    y * 10 - ((s[k].toNat : Int) - 48) = -(valN (s.data.toList.take (k + 1)) : Int) := by
  rw [take_snoc s k h, valN_snoc, hy]
  omega
theorem digit_fits (s : ByteArray) (k : Nat) (h : k < s.size) (y : Int) (hy : y = -(valN (s.data.toList.take k) : Int)) (hc : 48 ≤ s[k].toNat ∧ s[k].toNat ≤ 57) (hv : valN (s.data.toList.take (k + 1)) ≤ 9223372036854775808) :
    (-9223372036854775808 + ((s[k].toNat : Int) - 48)).tdiv 10 ≤ y ∧ -9223372036854775808 ≤ y * 10 ∧ -9223372036854775808 ≤ y * 10 - ((s[k].toNat : Int) - 48) := by
  have e := digit_on s k h y hy hc
  rw [low_tdiv _ (by omega) (by omega)]
  omega
theorem digit_over (s : ByteArray) (k : Nat) (h : k < s.size) (y : Int) (hy : y = -(valN (s.data.toList.take k) : Int)) (hc : 48 ≤ s[k].toNat ∧ s[k].toNat ≤ 57) (hv : 9223372036854775808 < valN (s.data.toList.take (k + 1))) :
    y < (-9223372036854775808 + ((s[k].toNat : Int) - 48)).tdiv 10 := by
  have e := digit_on s k h y hy hc
  rw [low_tdiv _ (by omega) (by omega)]
  omega
theorem take_all (s : ByteArray) (k : Nat) (hk : k ≤ s.size) (h : ¬ k < s.size) : s.data.toList.take k = s.data.toList := List.take_of_length_le (by simp; omega)

theorem rp_pos_over (s : ByteArray) (hs : s.size ≤ 4096) (h0 : 0 < s.size) (h3 : ((s[0].toNat : Int) == 45) = false) (hd : digs s.data.toList = true) (N : Hid (∀ w : World, Calls Tryd.prog 35 #[.string s] w fun e w' => e = .returned (.bool true) ∧ w = w')) (hb : 9223372036854775808 < valN s.data.toList) (w : World) : Calls Tryd.prog 14 #[.string s] w fun e w' => e = .returned (.tuple #[.int .i64 0, .int .i64 2]) ∧ w = w' := by
  have k0 : ∀ W, (Instr.index 9 (.string s) (.int .i64 0)).run Tryd.prog W = .ok (.int .u8 s[0].toNat) W := run_at s 0 h0
  have HD := Lib.hid hd
  have HB := Lib.hid hb
  clear hd hb
  go_enter Tryd.func14, Tryd.ntmps14
  go_wp2_with (go_at_call 35; refine (N.out _).mono ?_; rintro e w' ⟨rfl, rfl⟩)
  go_loop [6, 7] (fun n i => ∃ (k : Nat) (y : Int), k ≤ s.size ∧ i = .int .i64 k ∧ n = .int .i64 y ∧ -9223372036854775808 ≤ y ∧ y ≤ 0 ∧ Hid (y = -(valN (s.data.toList.take k) : Int))) (fun _ i => s.size - (intOf i).toNat)
  case atStart => exact ⟨0, 0, by omega, rfl, rfl, by omega, by omega, Lib.hid rfl⟩
  case round =>
    obtain ⟨k, y, hk, rfl, rfl, y0, y1, hy⟩ := hrel
    by_cases hlt : k < s.size
    · have kk := run_at s k hlt
      have hc := digs_at s k hlt HD.out
      by_cases hv : valN (s.data.toList.take (k + 1)) ≤ 9223372036854775808
      · have F := digit_fits s k hlt y hy.out hc hv
        have E := Lib.hid (digit_on s k hlt y hy.out hc)
        obtain ⟨f1, f2, f3⟩ := F
        have f4 : y * 10 - ((s[k].toNat : Int) - 48) ≤ 0 := by omega
        have f5 : decide (y < (-9223372036854775808 + ((s[k].toNat : Int) - 48)).tdiv 10) = false := lt_false f1
        go_wp2_with fail
        go_round
        case rel => exact ⟨k + 1, _, by omega, by go_num, rfl, f3, f4, E⟩
        case measure => simp [intOf]; omega
      · have F := digit_over s k hlt y hy.out hc (by omega)
        go_wp2_with fail
        go_ret2
        exact ⟨rfl, rfl⟩
    · have h1 := HB.out
      rw [← take_all s k hk hlt] at h1
      have := hy.out
      omega
theorem rp_pos_ok (s : ByteArray) (hs : s.size ≤ 4096) (h0 : 0 < s.size) (h3 : ((s[0].toNat : Int) == 45) = false) (hd : digs s.data.toList = true) (N : Hid (∀ w : World, Calls Tryd.prog 35 #[.string s] w fun e w' => e = .returned (.bool true) ∧ w = w')) (hb : valN s.data.toList ≤ 9223372036854775807) (w : World) : Calls Tryd.prog 14 #[.string s] w fun e w' => e = .returned (.tuple #[.int .i64 (valN s.data.toList : Int), .int .i64 0]) ∧ w = w' := by
  have k0 : ∀ W, (Instr.index 9 (.string s) (.int .i64 0)).run Tryd.prog W = .ok (.int .u8 s[0].toNat) W := run_at s 0 h0
  have HD := Lib.hid hd
  have HB := Lib.hid hb
  clear hd hb
  go_enter Tryd.func14, Tryd.ntmps14
  go_wp2_with (go_at_call 35; refine (N.out _).mono ?_; rintro e w' ⟨rfl, rfl⟩)
  go_loop [6, 7] (fun n i => ∃ (k : Nat) (y : Int), k ≤ s.size ∧ i = .int .i64 k ∧ n = .int .i64 y ∧ -9223372036854775808 ≤ y ∧ y ≤ 0 ∧ Hid (y = -(valN (s.data.toList.take k) : Int))) (fun _ i => s.size - (intOf i).toNat)
  case atStart => exact ⟨0, 0, by omega, rfl, rfl, by omega, by omega, Lib.hid rfl⟩
  case round =>
    obtain ⟨k, y, hk, rfl, rfl, y0, y1, hy⟩ := hrel
    by_cases hlt : k < s.size
    · have kk := run_at s k hlt
      have hc := digs_at s k hlt HD.out
      have hv : valN (s.data.toList.take (k + 1)) ≤ 9223372036854775808 := by have := HB.out; have := valN_take_le s.data.toList (k + 1); omega
      have F := digit_fits s k hlt y hy.out hc hv
      have E := Lib.hid (digit_on s k hlt y hy.out hc)
      obtain ⟨f1, f2, f3⟩ := F
      have f4 : y * 10 - ((s[k].toNat : Int) - 48) ≤ 0 := by omega
      have f5 : decide (y < (-9223372036854775808 + ((s[k].toNat : Int) - 48)).tdiv 10) = false := lt_false f1
      go_wp2_with fail
      go_round
      case rel => exact ⟨k + 1, _, by omega, by go_num, rfl, f3, f4, E⟩
      case measure => simp [intOf]; omega
    · have h1 := HB.out
      have h2 := hy.out
      rw [take_all s k hk hlt] at h2
      have z : (y == -9223372036854775808) = false := beq_false (by omega)
      have z2 : -9223372036854775808 < y := by omega
      go_wp2_with fail
      go_ret2
      exact ⟨ret_two (by omega) rfl, rfl⟩
theorem rp_pos_edge (s : ByteArray) (hs : s.size ≤ 4096) (h0 : 0 < s.size) (h3 : ((s[0].toNat : Int) == 45) = false) (hd : digs s.data.toList = true) (N : Hid (∀ w : World, Calls Tryd.prog 35 #[.string s] w fun e w' => e = .returned (.bool true) ∧ w = w')) (hb : valN s.data.toList = 9223372036854775808) (w : World) : Calls Tryd.prog 14 #[.string s] w fun e w' => e = .returned (.tuple #[.int .i64 0, .int .i64 2]) ∧ w = w' := by
  have k0 : ∀ W, (Instr.index 9 (.string s) (.int .i64 0)).run Tryd.prog W = .ok (.int .u8 s[0].toNat) W := run_at s 0 h0
  have HD := Lib.hid hd
  have HB := Lib.hid hb
  clear hd hb
  go_enter Tryd.func14, Tryd.ntmps14
  go_wp2_with (go_at_call 35; refine (N.out _).mono ?_; rintro e w' ⟨rfl, rfl⟩)
  go_loop [6, 7] (fun n i => ∃ (k : Nat) (y : Int), k ≤ s.size ∧ i = .int .i64 k ∧ n = .int .i64 y ∧ -9223372036854775808 ≤ y ∧ y ≤ 0 ∧ Hid (y = -(valN (s.data.toList.take k) : Int))) (fun _ i => s.size - (intOf i).toNat)
  case atStart => exact ⟨0, 0, by omega, rfl, rfl, by omega, by omega, Lib.hid rfl⟩
  case round =>
    obtain ⟨k, y, hk, rfl, rfl, y0, y1, hy⟩ := hrel
    by_cases hlt : k < s.size
    · have kk := run_at s k hlt
      have hc := digs_at s k hlt HD.out
      have hv : valN (s.data.toList.take (k + 1)) ≤ 9223372036854775808 := by have := HB.out; have := valN_take_le s.data.toList (k + 1); omega
      have F := digit_fits s k hlt y hy.out hc hv
      have E := Lib.hid (digit_on s k hlt y hy.out hc)
      obtain ⟨f1, f2, f3⟩ := F
      have f4 : y * 10 - ((s[k].toNat : Int) - 48) ≤ 0 := by omega
      have f5 : decide (y < (-9223372036854775808 + ((s[k].toNat : Int) - 48)).tdiv 10) = false := lt_false f1
      go_wp2_with fail
      go_round
      case rel => exact ⟨k + 1, _, by omega, by go_num, rfl, f3, f4, E⟩
      case measure => simp [intOf]; omega
    · have h1 := HB.out
      have h2 := hy.out
      rw [take_all s k hk hlt] at h2
      have z : y = -9223372036854775808 := by omega
      subst z
      go_wp2_with fail
      go_ret2
      exact ⟨rfl, rfl⟩
theorem rp_neg_over (t s : ByteArray) (hs : s.size ≤ 4096) (h0 : 0 < t.size) (h3 : ((t[0].toNat : Int) == 45) = true) (hsl : ∀ W, (Instr.slice 9 (.string t) (some (.int .i64 1)) none none).run Tryd.prog W = .ok (.string s) W) (hq : (s.toList == [48]) = false) (hd : digs s.data.toList = true) (N : Hid (∀ w : World, Calls Tryd.prog 35 #[.string s] w fun e w' => e = .returned (.bool true) ∧ w = w')) (hb : 9223372036854775808 < valN s.data.toList) (w : World) : Calls Tryd.prog 14 #[.string t] w fun e w' => e = .returned (.tuple #[.int .i64 0, .int .i64 2]) ∧ w = w' := by
  have k0 : ∀ W, (Instr.index 9 (.string t) (.int .i64 0)).run Tryd.prog W = .ok (.int .u8 t[0].toNat) W := run_at t 0 h0
  have HD := Lib.hid hd
  have HB := Lib.hid hb
  clear hd hb
  go_enter Tryd.func14, Tryd.ntmps14
  go_wp2_with (go_at_call 35; refine (N.out _).mono ?_; rintro e w' ⟨rfl, rfl⟩)
  go_loop [6, 7] (fun n i => ∃ (k : Nat) (y : Int), k ≤ s.size ∧ i = .int .i64 k ∧ n = .int .i64 y ∧ -9223372036854775808 ≤ y ∧ y ≤ 0 ∧ Hid (y = -(valN (s.data.toList.take k) : Int))) (fun _ i => s.size - (intOf i).toNat)
  case atStart => exact ⟨0, 0, by omega, rfl, rfl, by omega, by omega, Lib.hid rfl⟩
  case round =>
    obtain ⟨k, y, hk, rfl, rfl, y0, y1, hy⟩ := hrel
    by_cases hlt : k < s.size
    · have kk := run_at s k hlt
      have hc := digs_at s k hlt HD.out
      by_cases hv : valN (s.data.toList.take (k + 1)) ≤ 9223372036854775808
      · have F := digit_fits s k hlt y hy.out hc hv
        have E := Lib.hid (digit_on s k hlt y hy.out hc)
        obtain ⟨f1, f2, f3⟩ := F
        have f4 : y * 10 - ((s[k].toNat : Int) - 48) ≤ 0 := by omega
        have f5 : decide (y < (-9223372036854775808 + ((s[k].toNat : Int) - 48)).tdiv 10) = false := lt_false f1
        go_wp2_with fail
        go_round
        case rel => exact ⟨k + 1, _, by omega, by go_num, rfl, f3, f4, E⟩
        case measure => simp [intOf]; omega
      · have F := digit_over s k hlt y hy.out hc (by omega)
        go_wp2_with fail
        go_ret2
        exact ⟨rfl, rfl⟩
    · have h1 := HB.out
      rw [← take_all s k hk hlt] at h1
      have := hy.out
      omega
theorem rp_neg_ok (t s : ByteArray) (hs : s.size ≤ 4096) (h0 : 0 < t.size) (h3 : ((t[0].toNat : Int) == 45) = true) (hsl : ∀ W, (Instr.slice 9 (.string t) (some (.int .i64 1)) none none).run Tryd.prog W = .ok (.string s) W) (hq : (s.toList == [48]) = false) (hd : digs s.data.toList = true) (N : Hid (∀ w : World, Calls Tryd.prog 35 #[.string s] w fun e w' => e = .returned (.bool true) ∧ w = w')) (hb : valN s.data.toList ≤ 9223372036854775808) (w : World) : Calls Tryd.prog 14 #[.string t] w fun e w' => e = .returned (.tuple #[.int .i64 (-(valN s.data.toList : Int)), .int .i64 0]) ∧ w = w' := by
  have k0 : ∀ W, (Instr.index 9 (.string t) (.int .i64 0)).run Tryd.prog W = .ok (.int .u8 t[0].toNat) W := run_at t 0 h0
  have HD := Lib.hid hd
  have HB := Lib.hid hb
  clear hd hb
  go_enter Tryd.func14, Tryd.ntmps14
  go_wp2_with (go_at_call 35; refine (N.out _).mono ?_; rintro e w' ⟨rfl, rfl⟩)
  go_loop [6, 7] (fun n i => ∃ (k : Nat) (y : Int), k ≤ s.size ∧ i = .int .i64 k ∧ n = .int .i64 y ∧ -9223372036854775808 ≤ y ∧ y ≤ 0 ∧ Hid (y = -(valN (s.data.toList.take k) : Int))) (fun _ i => s.size - (intOf i).toNat)
  case atStart => exact ⟨0, 0, by omega, rfl, rfl, by omega, by omega, Lib.hid rfl⟩
  case round =>
    obtain ⟨k, y, hk, rfl, rfl, y0, y1, hy⟩ := hrel
    by_cases hlt : k < s.size
    · have kk := run_at s k hlt
      have hc := digs_at s k hlt HD.out
      have hv : valN (s.data.toList.take (k + 1)) ≤ 9223372036854775808 := by have := HB.out; have := valN_take_le s.data.toList (k + 1); omega
      have F := digit_fits s k hlt y hy.out hc hv
      have E := Lib.hid (digit_on s k hlt y hy.out hc)
      obtain ⟨f1, f2, f3⟩ := F
      have f4 : y * 10 - ((s[k].toNat : Int) - 48) ≤ 0 := by omega
      have f5 : decide (y < (-9223372036854775808 + ((s[k].toNat : Int) - 48)).tdiv 10) = false := lt_false f1
      go_wp2_with fail
      go_round
      case rel => exact ⟨k + 1, _, by omega, by go_num, rfl, f3, f4, E⟩
      case measure => simp [intOf]; omega
    · have h1 := HB.out
      have h2 := hy.out
      rw [take_all s k hk hlt] at h2
      go_wp2_with fail
      go_ret2
      exact ⟨ret_two (by omega) rfl, rfl⟩
theorem rp_no (s : ByteArray) (h0 : 0 < s.size) (h3 : ((s[0].toNat : Int) == 45) = false) (N : Hid (∀ w : World, Calls Tryd.prog 35 #[.string s] w fun e w' => e = .returned (.bool false) ∧ w = w')) (w : World) : Calls Tryd.prog 14 #[.string s] w fun e w' => e = .returned (.tuple #[.int .i64 0, .int .i64 3]) ∧ w = w' := by
  have k0 : ∀ W, (Instr.index 9 (.string s) (.int .i64 0)).run Tryd.prog W = .ok (.int .u8 s[0].toNat) W := run_at s 0 h0
  go_enter Tryd.func14, Tryd.ntmps14
  go_wp2_with (go_at_call 35; refine (N.out _).mono ?_; rintro e w' ⟨rfl, rfl⟩)
  go_ret2
  exact ⟨rfl, rfl⟩
theorem rp_neg_no (t s : ByteArray) (h0 : 0 < t.size) (h3 : ((t[0].toNat : Int) == 45) = true) (hsl : ∀ W, (Instr.slice 9 (.string t) (some (.int .i64 1)) none none).run Tryd.prog W = .ok (.string s) W) (N : Hid (∀ w : World, Calls Tryd.prog 35 #[.string s] w fun e w' => e = .returned (.bool false) ∧ w = w')) (w : World) : Calls Tryd.prog 14 #[.string t] w fun e w' => e = .returned (.tuple #[.int .i64 0, .int .i64 3]) ∧ w = w' := by
  have k0 : ∀ W, (Instr.index 9 (.string t) (.int .i64 0)).run Tryd.prog W = .ok (.int .u8 t[0].toNat) W := run_at t 0 h0
  go_enter Tryd.func14, Tryd.ntmps14
  go_wp2_with (go_at_call 35; refine (N.out _).mono ?_; rintro e w' ⟨rfl, rfl⟩)
  go_ret2
  exact ⟨rfl, rfl⟩
theorem rp_neg_zero (t : ByteArray) (h0 : 0 < t.size) (h3 : ((t[0].toNat : Int) == 45) = true) (hsl : ∀ W, (Instr.slice 9 (.string t) (some (.int .i64 1)) none none).run Tryd.prog W = .ok (.string (str [48])) W) (N : Hid (∀ w : World, Calls Tryd.prog 35 #[.string (str [48])] w fun e w' => e = .returned (.bool true) ∧ w = w')) (w : World) : Calls Tryd.prog 14 #[.string t] w fun e w' => e = .returned (.tuple #[.int .i64 0, .int .i64 3]) ∧ w = w' := by
  have k0 : ∀ W, (Instr.index 9 (.string t) (.int .i64 0)).run Tryd.prog W = .ok (.int .u8 t[0].toNat) W := run_at t 0 h0
  go_enter Tryd.func14, Tryd.ntmps14
  go_wp2_with (go_at_call 35; refine (N.out _).mono ?_; rintro e w' ⟨rfl, rfl⟩)
  go_ret2
  exact ⟨rfl, rfl⟩
theorem rp_nil (N : Hid (∀ w : World, Calls Tryd.prog 35 #[.string (str [])] w fun e w' => e = .returned (.bool false) ∧ w = w')) (w : World) : Calls Tryd.prog 14 #[.string (str [])] w fun e w' => e = .returned (.tuple #[.int .i64 0, .int .i64 3]) ∧ w = w' := by
  go_enter Tryd.func14, Tryd.ntmps14
  go_wp2_with (go_at_call 35; refine (N.out _).mono ?_; rintro e w' ⟨rfl, rfl⟩)
  go_ret2
  exact ⟨rfl, rfl⟩
theorem rparse_neg (d : List UInt8) (hs : d.length ≤ 4000) (w : World) : Calls Tryd.prog 14 #[.string (str (45 :: d))] w fun e w' => e = .returned (.tuple #[.int .i64 ((numR (45 :: d)).1), .int .i64 ((numR (45 :: d)).2)]) ∧ w = w' := by
  have hz := size_str (45 :: d)
  have hzd := size_str d
  have h0 : 0 < (str (45 :: d)).size := by rw [hz]; simp
  have h3 : (((str (45 :: d))[0].toNat : Int) == 45) = true := rfl
  have hsl := sll_run (45 :: d) 1 (by simp) d rfl 1 rfl
  have N := Lib.hid (fun w => rdigits_any d (by omega) w)
  cases hn : nat d with
  | false =>
    rw [hn] at N
    rw [numR_syntax (by unfold formed; rw [body_neg, hn]; rfl)]
    exact rp_neg_no _ _ h0 h3 hsl N w
  | true =>
    rw [hn] at N
    by_cases hd : d = [48]
    · subst hd
      rw [numR_syntax rfl]
      exact rp_neg_zero _ h0 h3 hsl N w
    · have hf : formed (45 :: d) = true := by
        unfold formed
        rw [body_neg, hn]
        simp [hd]
      have hg : sgn (45 :: d) = -(valN d : Int) := by
        unfold sgn
        rw [body_neg, if_pos (by simp [neg])]
      by_cases hb : valN d ≤ 9223372036854775808
      · rw [numR_ok hf (by rw [hg, fits_iff]; omega), hg]
        exact rp_neg_ok _ (str d) (by omega) h0 h3 hsl (ne_of d [48] hd) (nat_digs hn) N hb w
      · rw [numR_range hf (by rw [hg]; simp [fits]; omega)]
        exact rp_neg_over _ (str d) (by omega) h0 h3 hsl (ne_of d [48] hd) (nat_digs hn) N (by show 9223372036854775808 < valN d; omega) w
theorem rparse_pos (l : List UInt8) (hs : l.length ≤ 4000) (hg : neg l = false) (w : World) : Calls Tryd.prog 14 #[.string (str l)] w fun e w' => e = .returned (.tuple #[.int .i64 ((numR l).1), .int .i64 ((numR l).2)]) ∧ w = w' := by
  have N := Lib.hid (fun w => rdigits_any l (by omega) w)
  cases l with
  | nil => exact rp_nil N w
  | cons c r =>
    have hz := size_str (c :: r)
    have h0 : 0 < (str (c :: r)).size := by rw [hz]; simp
    have hc : c ≠ 45 := by simpa [neg] using hg
    have h3 : (((str (c :: r))[0].toNat : Int) == 45) = false := by
      refine beq_false fun h => hc (UInt8.toNat_inj.1 ?_)
      have e : (str (c :: r))[0] = c := rfl
      rw [e] at h
      have e45 : (45 : UInt8).toNat = 45 := rfl
      omega
    have hb := body_pos (c :: r) hg
    cases hn : nat (c :: r) with
    | false =>
      rw [hn] at N
      rw [numR_syntax (by unfold formed; rw [hb, hn]; rfl)]
      exact rp_no _ h0 h3 N w
    | true =>
      rw [hn] at N
      have hf : formed (c :: r) = true := by
        unfold formed
        rw [hb, hn]
        simp [hc]
      have hv : sgn (c :: r) = (valN (c :: r) : Int) := by
        unfold sgn
        rw [hb, if_neg (by simp [hg])]
      by_cases h1 : valN (c :: r) ≤ 9223372036854775807
      · rw [numR_ok hf (by rw [hv, fits_iff]; omega), hv]
        exact rp_pos_ok _ (by omega) h0 h3 (nat_digs hn) N h1 w
      · rw [numR_range hf (by rw [hv]; simp [fits]; omega)]
        by_cases h2 : valN (c :: r) = 9223372036854775808
        · exact rp_pos_edge _ (by omega) h0 h3 (nat_digs hn) N h2 w
        · exact rp_pos_over _ (by omega) h0 h3 (nat_digs hn) N (by show 9223372036854775808 < valN (c :: r); omega) w
theorem rparse_any (l : List UInt8) (hs : l.length ≤ 4000) (w : World) : Calls Tryd.prog 14 #[.string (str l)] w fun e w' => e = .returned (.tuple #[.int .i64 ((numR l).1), .int .i64 ((numR l).2)]) ∧ w = w' := by
  cases h : neg l with
  | false => exact rparse_pos l hs h w
  | true =>
    have e := neg_split l h
    have hl := body_len l
    rw [e]
    exact rparse_neg (body l) (by omega) w
theorem rprange_err (s : ByteArray) (lo hi n c : Int) (w : World) (C : Hid (∀ w : World, Calls Tryd.prog 14 #[.string s] w fun e w' => e = .returned (.tuple #[.int .i64 n, .int .i64 c]) ∧ w = w')) (hc : (c != 0) = true) : Calls Tryd.prog 16 #[.string s, .int .i64 lo, .int .i64 hi] w fun e w' => e = .returned (.tuple #[.int .i64 0, .int .i64 c]) ∧ w = w' := by
  go_enter Tryd.func16, Tryd.ntmps16
  go_wp2_with (go_at_call 14; refine (C.out _).mono ?_; rintro e w1 ⟨rfl, rfl⟩)
  go_ret2
  exact ⟨rfl, rfl⟩
theorem rprange_in (s : ByteArray) (lo hi n : Int) (w : World) (C : Hid (∀ w : World, Calls Tryd.prog 14 #[.string s] w fun e w' => e = .returned (.tuple #[.int .i64 n, .int .i64 0]) ∧ w = w')) (h0 : lo ≤ n) (h1 : n ≤ hi) : Calls Tryd.prog 16 #[.string s, .int .i64 lo, .int .i64 hi] w fun e w' => e = .returned (.tuple #[.int .i64 n, .int .i64 0]) ∧ w = w' := by
  have d0 : decide (n < lo) = false := lt_false h0
  have d1 : decide (hi < n) = false := lt_false h1
  go_enter Tryd.func16, Tryd.ntmps16
  go_wp2_with (go_at_call 14; refine (C.out _).mono ?_; rintro e w1 ⟨rfl, rfl⟩)
  go_ret2
  exact ⟨rfl, rfl⟩
theorem rprange_out (s : ByteArray) (lo hi n : Int) (w : World) (C : Hid (∀ w : World, Calls Tryd.prog 14 #[.string s] w fun e w' => e = .returned (.tuple #[.int .i64 n, .int .i64 0]) ∧ w = w')) (h : n < lo ∨ hi < n) : Calls Tryd.prog 16 #[.string s, .int .i64 lo, .int .i64 hi] w fun e w' => e = .returned (.tuple #[.int .i64 0, .int .i64 2]) ∧ w = w' := by
  by_cases h0 : n < lo
  · go_enter Tryd.func16, Tryd.ntmps16
    go_wp2_with (go_at_call 14; refine (C.out _).mono ?_; rintro e w1 ⟨rfl, rfl⟩)
    go_ret2
    exact ⟨rfl, rfl⟩
  · have d0 : decide (n < lo) = false := lt_false (by omega)
    have d1 : hi < n := by omega
    go_enter Tryd.func16, Tryd.ntmps16
    go_wp2_with (go_at_call 14; refine (C.out _).mono ?_; rintro e w1 ⟨rfl, rfl⟩)
    go_ret2
    exact ⟨rfl, rfl⟩
theorem rprange_any (l : List UInt8) (hs : l.length ≤ 4000) (lo hi : Int) (w : World) : Calls Tryd.prog 16 #[.string (str l), .int .i64 lo, .int .i64 hi] w fun e w' => e = .returned (.tuple #[.int .i64 ((rngR l lo hi).1), .int .i64 ((rngR l lo hi).2)]) ∧ w = w' := by
  have C := Lib.hid (fun w => rparse_any l hs w)
  unfold rngR
  generalize numR l = r at C ⊢
  obtain ⟨n, c⟩ := r
  by_cases h0 : c = 0
  · subst h0
    rw [if_pos rfl]
    by_cases h1 : lo ≤ n ∧ n ≤ hi
    · rw [if_pos h1]; exact rprange_in _ lo hi n w C h1.1 h1.2
    · rw [if_neg h1]; exact rprange_out _ lo hi n w C (by omega)
  · rw [if_neg h0]
    exact rprange_err _ lo hi n c w C (bne_true h0)
end Go.Proofs.YtaglpfilopcniaaDoor
