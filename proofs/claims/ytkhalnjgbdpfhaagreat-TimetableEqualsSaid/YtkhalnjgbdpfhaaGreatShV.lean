/-
  Identifiers: the functions of package ident and of its reference that look at single bytes, and Valid: what each call answers; the world is as it was. Condition: a string of at most 2^40 bytes. ident.Valid and the reference's Valid, whatever the length of the string. Condition: none.
-/
import Derived.Test.YtkhalnjgbdpfhaaGreatShA
import Derived.Test.YtkhalnjgbdpfhaaGreatShP
namespace Go.Proofs.YtkhalnjgbdpfhaaGreat
open Go.RowKit

/-! ### Single bytes -/
def lttI (n : Int) : Bool := decide ((65 ≤ n ∧ n ≤ 90) ∨ (97 ≤ n ∧ n ≤ 122))
def digI (n : Int) : Bool := decide (48 ≤ n ∧ n ≤ 57)
def sgnI (n : Int) : Bool := decide (n = 45 ∨ n = 95 ∨ n = 46)
theorem idB_int (c : UInt8) : idB c = (lttI c.toNat || digI c.toNat || sgnI c.toNat) := by
  rw [Bool.eq_iff_iff]
  unfold idB lttI digI sgnI
  simp only [Bool.or_eq_true, decide_eq_true_iff]
  omega
theorem ways_byte (n : Int) : n ≤ 44 ∨ n = 45 ∨ n = 46 ∨ n = 47 ∨ (48 ≤ n ∧ n ≤ 57) ∨ (58 ≤ n ∧ n ≤ 64) ∨ (65 ≤ n ∧ n ≤ 90) ∨ (91 ≤ n ∧ n ≤ 94) ∨ n = 95 ∨ n = 96 ∨ (97 ≤ n ∧ n ≤ 122) ∨ 123 ≤ n := by omega
theorem letter_any (n : Int) (w : World) : Calls Tryz.prog 109 #[.int .u8 n] w fun e w' => e = .returned (.bool (lttI n)) ∧ w = w' := by
  have hw : n ≤ 64 ∨ (65 ≤ n ∧ n ≤ 90) ∨ (91 ≤ n ∧ n ≤ 96) ∨ (97 ≤ n ∧ n ≤ 122) ∨ 123 ≤ n := by omega
  rcases hw with h | h | h | h | h
  · have R : Hid (lttI n = false) := by show _ = _; unfold lttI; simp; omega
    have g0 : decide ((65 : Int) ≤ n) = false := by simp; omega
    have g1 : n ≤ 90 := by omega
    have g2 : decide ((97 : Int) ≤ n) = false := by simp; omega
    have g3 : n ≤ 122 := by omega
    clear h
    go_enter Tryz.func109, Tryz.ntmps109
    go_wp2_with fail
    go_ret
    exact ⟨ret_bool R.out.symm, rfl⟩
  · have R : Hid (lttI n = true) := by show _ = _; unfold lttI; simp; omega
    have g0 : (65 : Int) ≤ n := by omega
    have g1 : n ≤ 90 := by omega
    have g2 : decide ((97 : Int) ≤ n) = false := by simp; omega
    have g3 : n ≤ 122 := by omega
    clear h
    go_enter Tryz.func109, Tryz.ntmps109
    go_wp2_with fail
    go_ret
    exact ⟨ret_bool R.out.symm, rfl⟩
  · have R : Hid (lttI n = false) := by show _ = _; unfold lttI; simp; omega
    have g0 : (65 : Int) ≤ n := by omega
    have g1 : decide (n ≤ 90) = false := by simp; omega
    have g2 : decide ((97 : Int) ≤ n) = false := by simp; omega
    have g3 : n ≤ 122 := by omega
    clear h
    go_enter Tryz.func109, Tryz.ntmps109
    go_wp2_with fail
    go_ret
    exact ⟨ret_bool R.out.symm, rfl⟩
  · have R : Hid (lttI n = true) := by show _ = _; unfold lttI; simp; omega
    have g0 : (65 : Int) ≤ n := by omega
    have g1 : decide (n ≤ 90) = false := by simp; omega
    have g2 : (97 : Int) ≤ n := by omega
    have g3 : n ≤ 122 := by omega
    clear h
    go_enter Tryz.func109, Tryz.ntmps109
    go_wp2_with fail
    go_ret
    exact ⟨ret_bool R.out.symm, rfl⟩
  · have R : Hid (lttI n = false) := by show _ = _; unfold lttI; simp; omega
    have g0 : (65 : Int) ≤ n := by omega
    have g1 : decide (n ≤ 90) = false := by simp; omega
    have g2 : (97 : Int) ≤ n := by omega
    have g3 : decide (n ≤ 122) = false := by simp; omega
    clear h
    go_enter Tryz.func109, Tryz.ntmps109
    go_wp2_with fail
    go_ret
    exact ⟨ret_bool R.out.symm, rfl⟩
theorem digit_any (n : Int) (w : World) : Calls Tryz.prog 110 #[.int .u8 n] w fun e w' => e = .returned (.bool (digI n)) ∧ w = w' := by
  have hw : n ≤ 47 ∨ (48 ≤ n ∧ n ≤ 57) ∨ 58 ≤ n := by omega
  rcases hw with h | h | h
  · have R : Hid (digI n = false) := by show _ = _; unfold digI; simp; omega
    have g0 : decide ((48 : Int) ≤ n) = false := by simp; omega
    have g1 : n ≤ 57 := by omega
    clear h
    go_enter Tryz.func110, Tryz.ntmps110
    go_wp2_with fail
    go_ret
    exact ⟨ret_bool R.out.symm, rfl⟩
  · have R : Hid (digI n = true) := by show _ = _; unfold digI; simp; omega
    have g0 : (48 : Int) ≤ n := by omega
    have g1 : n ≤ 57 := by omega
    clear h
    go_enter Tryz.func110, Tryz.ntmps110
    go_wp2_with fail
    go_ret
    exact ⟨ret_bool R.out.symm, rfl⟩
  · have R : Hid (digI n = false) := by show _ = _; unfold digI; simp; omega
    have g0 : (48 : Int) ≤ n := by omega
    have g1 : decide (n ≤ 57) = false := by simp; omega
    clear h
    go_enter Tryz.func110, Tryz.ntmps110
    go_wp2_with fail
    go_ret
    exact ⟨ret_bool R.out.symm, rfl⟩
theorem sign_any (n : Int) (w : World) : Calls Tryz.prog 111 #[.int .u8 n] w fun e w' => e = .returned (.bool (sgnI n)) ∧ w = w' := by
  by_cases h : n = 45 ∨ n = 95 ∨ n = 46
  · have R : Hid (sgnI n = true) := by show _ = _; unfold sgnI; simpa using h
    rcases h with rfl | rfl | rfl
    all_goals
      go_enter Tryz.func111, Tryz.ntmps111
      go_wp2_with fail
      go_ret
      exact ⟨ret_bool R.out.symm, rfl⟩
  · have R : Hid (sgnI n = false) := by show _ = _; unfold sgnI; simpa using h
    have q1 : (n == 45) = false := beq_false (by omega)
    have q2 : (n == 95) = false := beq_false (by omega)
    have q3 : (n == 46) = false := beq_false (by omega)
    clear h
    go_enter Tryz.func111, Tryz.ntmps111
    go_wp2_with fail
    go_ret
    exact ⟨ret_bool R.out.symm, rfl⟩

/-! ### Valid -/
theorem valid_empty (s : ByteArray) (h : s.size = 0) : validB s.data.toList = false := by
  unfold validB
  rw [sz_list, h]
  rfl
theorem valid_long (s : ByteArray) (h : 32 < s.size) : validB s.data.toList = false := by
  unfold validB
  rw [sz_list, decide_eq_false (show ¬ s.size ≤ 32 by omega), Bool.and_false, Bool.false_and]
theorem valid_all (s : ByteArray) (h1 : 1 ≤ s.size) (h2 : s.size ≤ 32) : validB s.data.toList = s.data.toList.all idB := by
  unfold validB
  rw [sz_list, decide_eq_true h1, decide_eq_true h2, Bool.true_and, Bool.true_and]
set_option maxHeartbeats 2000000 in
theorem valid_any (s : ByteArray) (hs : s.size ≤ 1099511627776) (w : World) : Calls Tryz.prog 78 #[.string s] w fun e w' => e = .returned (.bool (validB s.data.toList)) ∧ w = w' := by
  have hem := nil_iff s
  by_cases h0 : s.size = 0
  · have e := valid_empty s h0
    have he : s.toList.isEmpty = true := by rw [hem]; simpa using h0
    clear hem h0
    rw [e]
    go_enter Tryz.func78, Tryz.ntmps78
    go_wp2_with fail
    go_ret
    exact ⟨rfl, rfl⟩
  have he : s.toList.isEmpty = false := by rw [hem]; simpa using h0
  by_cases h3 : 32 < s.size
  · have e := valid_long s h3
    have g : (32 : Int) < (s.size : Int) := by omega
    clear hem h0 h3
    rw [e]
    go_enter Tryz.func78, Tryz.ntmps78
    go_wp2_with fail
    go_ret
    exact ⟨rfl, rfl⟩
  have g : decide ((32 : Int) < (s.size : Int)) = false := by simp; omega
  rw [valid_all s (by omega) (by omega)]
  obtain ⟨r, hr⟩ : ∃ r, s.data.toList.all idB = r := ⟨_, rfl⟩
  rw [hr]
  have HR := Lib.hid hr
  clear hr
  clear hem h0 h3
  go_enter Tryz.func78, Tryz.ntmps78
  go_wp2_with fail
  go_loop [13] (fun i => ∃ k : Nat, i = .int .i64 k ∧ k ≤ s.size ∧ Hid ((s.data.toList.take k).all idB = true)) (fun i => s.size - (intOf i).toNat)
  case atStart => exact ⟨0, rfl, Nat.zero_le _, Lib.hid rfl⟩
  case round =>
    clear he g
    obtain ⟨k, rfl, hk, ht⟩ := hrel
    by_cases hlt : k < s.size
    · obtain ⟨c, hc⟩ := get_at' s k hlt
      have k1 := fun W => at_run s k c hc k rfl W
      have hid := idB_int c
      generalize hn : (c.toNat : Int) = n at k1 hid
      have A := Lib.hid (fun W => letter_any n W)
      have B := Lib.hid (fun W => digit_any n W)
      have C := Lib.hid (fun W => sign_any n W)
      generalize lttI n = a at A hid
      generalize digI n = b at B hid
      generalize sgnI n = d at C hid
      clear hn
      have hways : (a = true) ∨ (a = false ∧ b = true) ∨ (a = false ∧ b = false ∧ d = true) ∨ (a = false ∧ b = false ∧ d = false) := by cases a <;> cases b <;> cases d <;> simp
      rcases hways with rfl | ⟨rfl, rfl⟩ | ⟨rfl, rfl, rfl⟩ | ⟨rfl, rfl, rfl⟩
      · have T := Lib.hid (all_take idB _ k c hc ht.out (by rw [hid]; rfl))
        clear hc hid ht B C
        go_wp2_with fail
        refine (A.out _).mono ?_
        rintro e w' ⟨rfl, rfl⟩
        go_wp2_with fail
        go_round
        case rel => exact ⟨k + 1, by go_num, by omega, T⟩
        case measure => simp [intOf]; omega
      · have T := Lib.hid (all_take idB _ k c hc ht.out (by rw [hid]; rfl))
        clear hc hid ht C
        go_wp2_with fail
        refine (A.out _).mono ?_
        rintro e w' ⟨rfl, rfl⟩
        go_wp2_with fail
        refine (B.out _).mono ?_
        rintro e w' ⟨rfl, rfl⟩
        go_wp2_with fail
        go_round
        case rel => exact ⟨k + 1, by go_num, by omega, T⟩
        case measure => simp [intOf]; omega
      · have T := Lib.hid (all_take idB _ k c hc ht.out (by rw [hid]; rfl))
        clear hc hid ht
        go_wp2_with fail
        refine (A.out _).mono ?_
        rintro e w' ⟨rfl, rfl⟩
        go_wp2_with fail
        refine (B.out _).mono ?_
        rintro e w' ⟨rfl, rfl⟩
        go_wp2_with fail
        refine (C.out _).mono ?_
        rintro e w' ⟨rfl, rfl⟩
        go_wp2_with fail
        go_round
        case rel => exact ⟨k + 1, by go_num, by omega, T⟩
        case measure => simp [intOf]; omega
      · have T := Lib.hid (all_stop (p := idB) hc (by rw [hid]; rfl))
        clear hc hid ht
        go_wp2_with fail
        refine (A.out _).mono ?_
        rintro e w' ⟨rfl, rfl⟩
        go_wp2_with fail
        refine (B.out _).mono ?_
        rintro e w' ⟨rfl, rfl⟩
        go_wp2_with fail
        refine (C.out _).mono ?_
        rintro e w' ⟨rfl, rfl⟩
        go_wp2_with fail
        go_ret
        exact ⟨ret_bool (by rw [← HR.out, T.out]), rfl⟩
    · have R : Hid (r = true) := by
        show _ = _
        rw [← HR.out]
        have := ht.out
        rw [List.take_of_length_le (by rw [sz_list]; omega)] at this
        exact this
      have d : decide (k < s.size) = false := by rw [decide_eq_false_iff_not]; exact hlt
      clear hlt ht
      go_wp2_with fail
      go_ret
      exact ⟨ret_bool R.out.symm, rfl⟩
set_option maxHeartbeats 4000000 in
theorem rvalid_any (s : ByteArray) (hs : s.size ≤ 1099511627776) (w : World) : Calls Tryz.prog 96 #[.string s] w fun e w' => e = .returned (.bool (validB s.data.toList)) ∧ w = w' := by
  by_cases h0 : s.size = 0
  · have e := valid_empty s h0
    have he : ((s.size : Int) == 0) = true := beq_true (by omega)
    have he2 : (s.size == 0) = true := by rw [h0]; rfl
    rw [e]
    clear e h0
    go_enter Tryz.func96, Tryz.ntmps96
    go_wp2_with fail
    go_ret
    exact ⟨rfl, rfl⟩
  have he : ((s.size : Int) == 0) = false := beq_false (by omega)
  have he2 : (s.size == 0) = false := by rw [beq_eq_false_iff_ne]; exact h0
  by_cases h3 : 32 < s.size
  · have e := valid_long s h3
    have g : (32 : Int) < (s.size : Int) := by omega
    clear h0 h3
    rw [e]
    go_enter Tryz.func96, Tryz.ntmps96
    go_wp2_with fail
    go_ret
    exact ⟨rfl, rfl⟩
  have g : decide ((32 : Int) < (s.size : Int)) = false := by simp; omega
  rw [valid_all s (by omega) (by omega)]
  obtain ⟨r, hr⟩ : ∃ r, s.data.toList.all idB = r := ⟨_, rfl⟩
  rw [hr]
  have HR := Lib.hid hr
  clear hr
  clear h0 h3
  go_enter Tryz.func96, Tryz.ntmps96
  go_wp2_with fail
  go_loop [3] (fun i => ∃ k : Nat, i = .int .i64 k ∧ k ≤ s.size ∧ Hid ((s.data.toList.take k).all idB = true)) (fun i => s.size - (intOf i).toNat)
  case atStart => exact ⟨0, rfl, Nat.zero_le _, Lib.hid rfl⟩
  case round =>
    clear he he2 g
    obtain ⟨k, rfl, hk, ht⟩ := hrel
    by_cases hlt : k < s.size
    · obtain ⟨c, hc⟩ := get_at' s k hlt
      have k1 := fun W => at_run s k c hc k rfl W
      have hid := idB_int c
      generalize hn : (c.toNat : Int) = n at k1 hid
      clear hn
      unfold lttI digI sgnI at hid
      rcases ways_byte n with h | rfl | rfl | rfl | h | h | h | h | rfl | rfl | h | h
      · have T := Lib.hid (all_stop (p := idB) hc (by rw [hid]; simp; omega))
        have g0 : decide ((65 : Int) ≤ n) = false := by simp; omega
        have g1 : n ≤ 90 := by omega
        have g2 : decide ((97 : Int) ≤ n) = false := by simp; omega
        have g3 : n ≤ 122 := by omega
        have g4 : decide ((48 : Int) ≤ n) = false := by simp; omega
        have g5 : n ≤ 57 := by omega
        have q0 : (n != 45) = true := bne_true (by omega)
        have q1 : (n != 95) = true := bne_true (by omega)
        have q2 : (n != 46) = true := bne_true (by omega)
        clear hc hid ht h
        go_wp2_with fail
        go_ret
        exact ⟨ret_bool (by rw [← HR.out, T.out]), rfl⟩
      · have T := Lib.hid (all_take idB _ k c hc ht.out (by rw [hid]; simp))
        clear hc hid ht
        go_wp2_with fail
        go_round
        case rel => exact ⟨k + 1, by go_num, by omega, T⟩
        case measure => simp [intOf]; omega
      · have T := Lib.hid (all_take idB _ k c hc ht.out (by rw [hid]; simp))
        clear hc hid ht
        go_wp2_with fail
        go_round
        case rel => exact ⟨k + 1, by go_num, by omega, T⟩
        case measure => simp [intOf]; omega
      · have T := Lib.hid (all_stop (p := idB) hc (by rw [hid]; simp))
        clear hc hid ht
        go_wp2_with fail
        go_ret
        exact ⟨ret_bool (by rw [← HR.out, T.out]), rfl⟩
      · have T := Lib.hid (all_take idB _ k c hc ht.out (by rw [hid]; simp; omega))
        have g0 : decide ((65 : Int) ≤ n) = false := by simp; omega
        have g1 : n ≤ 90 := by omega
        have g2 : decide ((97 : Int) ≤ n) = false := by simp; omega
        have g3 : n ≤ 122 := by omega
        have g4 : (48 : Int) ≤ n := by omega
        have g5 : n ≤ 57 := by omega
        have q0 : (n != 45) = true := bne_true (by omega)
        have q1 : (n != 95) = true := bne_true (by omega)
        have q2 : (n != 46) = true := bne_true (by omega)
        clear hc hid ht h
        go_wp2_with fail
        go_round
        case rel => exact ⟨k + 1, by go_num, by omega, T⟩
        case measure => simp [intOf]; omega
      · have T := Lib.hid (all_stop (p := idB) hc (by rw [hid]; simp; omega))
        have g0 : decide ((65 : Int) ≤ n) = false := by simp; omega
        have g1 : n ≤ 90 := by omega
        have g2 : decide ((97 : Int) ≤ n) = false := by simp; omega
        have g3 : n ≤ 122 := by omega
        have g4 : (48 : Int) ≤ n := by omega
        have g5 : decide (n ≤ 57) = false := by simp; omega
        have q0 : (n != 45) = true := bne_true (by omega)
        have q1 : (n != 95) = true := bne_true (by omega)
        have q2 : (n != 46) = true := bne_true (by omega)
        clear hc hid ht h
        go_wp2_with fail
        go_ret
        exact ⟨ret_bool (by rw [← HR.out, T.out]), rfl⟩
      · have T := Lib.hid (all_take idB _ k c hc ht.out (by rw [hid]; simp; omega))
        have g0 : (65 : Int) ≤ n := by omega
        have g1 : n ≤ 90 := by omega
        have g2 : decide ((97 : Int) ≤ n) = false := by simp; omega
        have g3 : n ≤ 122 := by omega
        have g4 : (48 : Int) ≤ n := by omega
        have g5 : decide (n ≤ 57) = false := by simp; omega
        have q0 : (n != 45) = true := bne_true (by omega)
        have q1 : (n != 95) = true := bne_true (by omega)
        have q2 : (n != 46) = true := bne_true (by omega)
        clear hc hid ht h
        go_wp2_with fail
        go_round
        case rel => exact ⟨k + 1, by go_num, by omega, T⟩
        case measure => simp [intOf]; omega
      · have T := Lib.hid (all_stop (p := idB) hc (by rw [hid]; simp; omega))
        have g0 : (65 : Int) ≤ n := by omega
        have g1 : decide (n ≤ 90) = false := by simp; omega
        have g2 : decide ((97 : Int) ≤ n) = false := by simp; omega
        have g3 : n ≤ 122 := by omega
        have g4 : (48 : Int) ≤ n := by omega
        have g5 : decide (n ≤ 57) = false := by simp; omega
        have q0 : (n != 45) = true := bne_true (by omega)
        have q1 : (n != 95) = true := bne_true (by omega)
        have q2 : (n != 46) = true := bne_true (by omega)
        clear hc hid ht h
        go_wp2_with fail
        go_ret
        exact ⟨ret_bool (by rw [← HR.out, T.out]), rfl⟩
      · have T := Lib.hid (all_take idB _ k c hc ht.out (by rw [hid]; simp))
        clear hc hid ht
        go_wp2_with fail
        go_round
        case rel => exact ⟨k + 1, by go_num, by omega, T⟩
        case measure => simp [intOf]; omega
      · have T := Lib.hid (all_stop (p := idB) hc (by rw [hid]; simp))
        clear hc hid ht
        go_wp2_with fail
        go_ret
        exact ⟨ret_bool (by rw [← HR.out, T.out]), rfl⟩
      · have T := Lib.hid (all_take idB _ k c hc ht.out (by rw [hid]; simp; omega))
        have g0 : (65 : Int) ≤ n := by omega
        have g1 : decide (n ≤ 90) = false := by simp; omega
        have g2 : (97 : Int) ≤ n := by omega
        have g3 : n ≤ 122 := by omega
        have g4 : (48 : Int) ≤ n := by omega
        have g5 : decide (n ≤ 57) = false := by simp; omega
        have q0 : (n != 45) = true := bne_true (by omega)
        have q1 : (n != 95) = true := bne_true (by omega)
        have q2 : (n != 46) = true := bne_true (by omega)
        clear hc hid ht h
        go_wp2_with fail
        go_round
        case rel => exact ⟨k + 1, by go_num, by omega, T⟩
        case measure => simp [intOf]; omega
      · have T := Lib.hid (all_stop (p := idB) hc (by rw [hid]; simp; omega))
        have g0 : (65 : Int) ≤ n := by omega
        have g1 : decide (n ≤ 90) = false := by simp; omega
        have g2 : (97 : Int) ≤ n := by omega
        have g3 : decide (n ≤ 122) = false := by simp; omega
        have g4 : (48 : Int) ≤ n := by omega
        have g5 : decide (n ≤ 57) = false := by simp; omega
        have q0 : (n != 45) = true := bne_true (by omega)
        have q1 : (n != 95) = true := bne_true (by omega)
        have q2 : (n != 46) = true := bne_true (by omega)
        clear hc hid ht h
        go_wp2_with fail
        go_ret
        exact ⟨ret_bool (by rw [← HR.out, T.out]), rfl⟩
    · have R : Hid (r = true) := by
        show _ = _
        rw [← HR.out]
        have := ht.out
        rw [List.take_of_length_le (by rw [sz_list]; omega)] at this
        exact this
      have d : decide (k < s.size) = false := by rw [decide_eq_false_iff_not]; exact hlt
      clear hlt ht
      go_wp2_with fail
      go_ret
      exact ⟨ret_bool R.out.symm, rfl⟩
end Go.Proofs.YtkhalnjgbdpfhaaGreat
namespace Go.Proofs.YtkhalnjgbdpfhaaGreat
open Go.RowKit

theorem valid_all_any (s : ByteArray) (w : World) : Calls Tryz.prog 78 #[.string s] w fun e w' => e = .returned (.bool (validB s.data.toList)) ∧ w = w' := by
  by_cases hs : s.size ≤ 1099511627776
  · exact valid_any s hs w
  have e := valid_long s (by omega)
  have he : s.toList.isEmpty = false := by rw [nil_iff, decide_eq_false_iff_not]; omega
  have g : (32 : Int) < (s.size : Int) := by omega
  clear hs
  rw [e]
  go_enter Tryz.func78, Tryz.ntmps78
  go_wp2_with fail
  go_ret
  exact ⟨rfl, rfl⟩
theorem rvalid_all_any (s : ByteArray) (w : World) : Calls Tryz.prog 96 #[.string s] w fun e w' => e = .returned (.bool (validB s.data.toList)) ∧ w = w' := by
  by_cases hs : s.size ≤ 1099511627776
  · exact rvalid_any s hs w
  have e := valid_long s (by omega)
  have he : ((s.size : Int) == 0) = false := beq_false (by omega)
  have he2 : (s.size == 0) = false := by rw [beq_eq_false_iff_ne]; omega
  have g : (32 : Int) < (s.size : Int) := by omega
  clear hs
  rw [e]
  go_enter Tryz.func96, Tryz.ntmps96
  go_wp2_with fail
  go_ret
  exact ⟨rfl, rfl⟩
theorem valid_small {s : ByteArray} {id : List UInt8} (hs : str id = s) (hv : validB id = true) : s.size ≤ 32 := by
  rw [← hs, size_str]
  exact valid_le hv
end Go.Proofs.YtkhalnjgbdpfhaaGreat
