/-
  The reference's Name: what the call answers; the world is as it was. Condition: none.
-/
import Derived.Test.YtkhalnjgbdpfhaaGreatShV
namespace Go.Proofs.YtkhalnjgbdpfhaaGreat
open Go.RowKit

set_option maxRecDepth 100000 in
set_option maxHeartbeats 8000000 in
theorem rname_any (s : ByteArray) (hs : s.size ≤ 1099511627776) (w : World) : Calls Tryz.prog 94 #[.string s] w fun e w' => e = .returned (.bool (validB s.data.toList)) ∧ w = w' := by
  by_cases h0 : s.size = 0
  · have e := valid_empty s h0
    have he : (s.size : Int) < 1 := by omega
    rw [e]
    clear e h0
    go_enter Tryz.func94, Tryz.ntmps94
    go_wp2_with fail
    go_ret
    exact ⟨rfl, rfl⟩
  have he : decide ((s.size : Int) < 1) = false := by rw [decide_eq_false_iff_not]; omega
  by_cases h3 : 32 < s.size
  · have e := valid_long s h3
    have g : (32 : Int) < (s.size : Int) := by omega
    clear h0 h3
    rw [e]
    go_enter Tryz.func94, Tryz.ntmps94
    go_wp2_with fail
    go_ret
    exact ⟨rfl, rfl⟩
  have g : decide ((32 : Int) < (s.size : Int)) = false := by simp; omega
  rw [valid_all s (by omega) (by omega)]
  obtain ⟨r, hr⟩ : ∃ r, s.data.toList.all idB = r := ⟨_, rfl⟩
  rw [hr]
  have HR := Lib.hid hr
  clear hr
  clear h0 h3
  go_enter Tryz.func94, Tryz.ntmps94
  go_wp2_with fail
  go_loop [3] (fun i => ∃ k : Nat, i = .int .i64 k ∧ k ≤ s.size ∧ Hid ((s.data.toList.take k).all idB = true)) (fun i => s.size - (intOf i).toNat)
  case atStart => exact ⟨0, rfl, Nat.zero_le _, Lib.hid rfl⟩
  case round =>
    clear he g
    obtain ⟨k, rfl, hk, ht⟩ := hrel
    by_cases hlt : k < s.size
    · obtain ⟨c, hc⟩ := get_at' s k hlt
      have k1 := fun W => at_run s k c hc k rfl W
      have hid := idB_int c
      generalize hn : (c.toNat : Int) = n at k1 hid
      clear hn
      unfold lttI digI sgnI at hid
      rcases ways_byte n with h | rfl | rfl | rfl | h | h | h | h | rfl | rfl | h | h
      · have T := Lib.hid (all_stop (p := idB) hc (by rw [hid]; simp; omega))
        have g0 : decide ((65 : Int) ≤ n) = false := by rw [decide_eq_false_iff_not]; omega
        have g1 : n ≤ 90 := by omega
        have g2 : decide ((97 : Int) ≤ n) = false := by rw [decide_eq_false_iff_not]; omega
        have g3 : n ≤ 122 := by omega
        have g4 : decide ((48 : Int) ≤ n) = false := by rw [decide_eq_false_iff_not]; omega
        have g5 : n ≤ 57 := by omega
        have q0 : (n == 45) = false := beq_false (by omega)
        have q1 : (n == 95) = false := beq_false (by omega)
        have q2 : (n == 46) = false := beq_false (by omega)
        clear hc hid ht h
        go_wp2_with fail
        go_ret
        exact ⟨ret_bool (by rw [← HR.out, T.out]), rfl⟩
      · have T := Lib.hid (all_take idB _ k c hc ht.out (by rw [hid]; simp))
        clear hc hid ht
        go_wp2_with fail
        go_round
        case rel => exact ⟨k + 1, by go_num, by omega, T⟩
        case measure => simp [intOf]; omega
      · have T := Lib.hid (all_take idB _ k c hc ht.out (by rw [hid]; simp))
        clear hc hid ht
        go_wp2_with fail
        go_round
        case rel => exact ⟨k + 1, by go_num, by omega, T⟩
        case measure => simp [intOf]; omega
      · have T := Lib.hid (all_stop (p := idB) hc (by rw [hid]; simp))
        clear hc hid ht
        go_wp2_with fail
        go_ret
        exact ⟨ret_bool (by rw [← HR.out, T.out]), rfl⟩
      · have T := Lib.hid (all_take idB _ k c hc ht.out (by rw [hid]; simp; omega))
        have g0 : decide ((65 : Int) ≤ n) = false := by rw [decide_eq_false_iff_not]; omega
        have g1 : n ≤ 90 := by omega
        have g2 : decide ((97 : Int) ≤ n) = false := by rw [decide_eq_false_iff_not]; omega
        have g3 : n ≤ 122 := by omega
        have g4 : (48 : Int) ≤ n := by omega
        have g5 : n ≤ 57 := by omega
        have q0 : (n == 45) = false := beq_false (by omega)
        have q1 : (n == 95) = false := beq_false (by omega)
        have q2 : (n == 46) = false := beq_false (by omega)
        clear hc hid ht h
        go_wp2_with fail
        go_round
        case rel => exact ⟨k + 1, by go_num, by omega, T⟩
        case measure => simp [intOf]; omega
      · have T := Lib.hid (all_stop (p := idB) hc (by rw [hid]; simp; omega))
        have g0 : decide ((65 : Int) ≤ n) = false := by rw [decide_eq_false_iff_not]; omega
        have g1 : n ≤ 90 := by omega
        have g2 : decide ((97 : Int) ≤ n) = false := by rw [decide_eq_false_iff_not]; omega
        have g3 : n ≤ 122 := by omega
        have g4 : (48 : Int) ≤ n := by omega
        have g5 : decide (n ≤ 57) = false := by rw [decide_eq_false_iff_not]; omega
        have q0 : (n == 45) = false := beq_false (by omega)
        have q1 : (n == 95) = false := beq_false (by omega)
        have q2 : (n == 46) = false := beq_false (by omega)
        clear hc hid ht h
        go_wp2_with fail
        go_ret
        exact ⟨ret_bool (by rw [← HR.out, T.out]), rfl⟩
      · have T := Lib.hid (all_take idB _ k c hc ht.out (by rw [hid]; simp; omega))
        have g0 : (65 : Int) ≤ n := by omega
        have g1 : n ≤ 90 := by omega
        have g2 : decide ((97 : Int) ≤ n) = false := by rw [decide_eq_false_iff_not]; omega
        have g3 : n ≤ 122 := by omega
        have g4 : (48 : Int) ≤ n := by omega
        have g5 : decide (n ≤ 57) = false := by rw [decide_eq_false_iff_not]; omega
        have q0 : (n == 45) = false := beq_false (by omega)
        have q1 : (n == 95) = false := beq_false (by omega)
        have q2 : (n == 46) = false := beq_false (by omega)
        clear hc hid ht h
        go_wp2_with fail
        go_round
        case rel => exact ⟨k + 1, by go_num, by omega, T⟩
        case measure => simp [intOf]; omega
      · have T := Lib.hid (all_stop (p := idB) hc (by rw [hid]; simp; omega))
        have g0 : (65 : Int) ≤ n := by omega
        have g1 : decide (n ≤ 90) = false := by rw [decide_eq_false_iff_not]; omega
        have g2 : decide ((97 : Int) ≤ n) = false := by rw [decide_eq_false_iff_not]; omega
        have g3 : n ≤ 122 := by omega
        have g4 : (48 : Int) ≤ n := by omega
        have g5 : decide (n ≤ 57) = false := by rw [decide_eq_false_iff_not]; omega
        have q0 : (n == 45) = false := beq_false (by omega)
        have q1 : (n == 95) = false := beq_false (by omega)
        have q2 : (n == 46) = false := beq_false (by omega)
        clear hc hid ht h
        go_wp2_with fail
        go_ret
        exact ⟨ret_bool (by rw [← HR.out, T.out]), rfl⟩
      · have T := Lib.hid (all_take idB _ k c hc ht.out (by rw [hid]; simp))
        clear hc hid ht
        go_wp2_with fail
        go_round
        case rel => exact ⟨k + 1, by go_num, by omega, T⟩
        case measure => simp [intOf]; omega
      · have T := Lib.hid (all_stop (p := idB) hc (by rw [hid]; simp))
        clear hc hid ht
        go_wp2_with fail
        go_ret
        exact ⟨ret_bool (by rw [← HR.out, T.out]), rfl⟩
      · have T := Lib.hid (all_take idB _ k c hc ht.out (by rw [hid]; simp; omega))
        have g0 : (65 : Int) ≤ n := by omega
        have g1 : decide (n ≤ 90) = false := by rw [decide_eq_false_iff_not]; omega
        have g2 : (97 : Int) ≤ n := by omega
        have g3 : n ≤ 122 := by omega
        have g4 : (48 : Int) ≤ n := by omega
        have g5 : decide (n ≤ 57) = false := by rw [decide_eq_false_iff_not]; omega
        have q0 : (n == 45) = false := beq_false (by omega)
        have q1 : (n == 95) = false := beq_false (by omega)
        have q2 : (n == 46) = false := beq_false (by omega)
        clear hc hid ht h
        go_wp2_with fail
        go_round
        case rel => exact ⟨k + 1, by go_num, by omega, T⟩
        case measure => simp [intOf]; omega
      · have T := Lib.hid (all_stop (p := idB) hc (by rw [hid]; simp; omega))
        have g0 : (65 : Int) ≤ n := by omega
        have g1 : decide (n ≤ 90) = false := by rw [decide_eq_false_iff_not]; omega
        have g2 : (97 : Int) ≤ n := by omega
        have g3 : decide (n ≤ 122) = false := by rw [decide_eq_false_iff_not]; omega
        have g4 : (48 : Int) ≤ n := by omega
        have g5 : decide (n ≤ 57) = false := by rw [decide_eq_false_iff_not]; omega
        have q0 : (n == 45) = false := beq_false (by omega)
        have q1 : (n == 95) = false := beq_false (by omega)
        have q2 : (n == 46) = false := beq_false (by omega)
        clear hc hid ht h
        go_wp2_with fail
        go_ret
        exact ⟨ret_bool (by rw [← HR.out, T.out]), rfl⟩
    · have R : Hid (r = true) := by
        show _ = _
        rw [← HR.out]
        have := ht.out
        rw [List.take_of_length_le (by rw [sz_list]; omega)] at this
        exact this
      have d : decide (k < s.size) = false := by rw [decide_eq_false_iff_not]; exact hlt
      clear hlt ht
      go_wp2_with fail
      go_ret
      exact ⟨ret_bool R.out.symm, rfl⟩
/-- Name, whatever the length. -/
theorem rname_all_any (s : ByteArray) (w : World) : Calls Tryz.prog 94 #[.string s] w fun e w' => e = .returned (.bool (validB s.data.toList)) ∧ w = w' := by
  by_cases hs : s.size ≤ 1099511627776
  · exact rname_any s hs w
  have e := valid_long s (by omega)
  have he : decide ((s.size : Int) < 1) = false := by rw [decide_eq_false_iff_not]; omega
  have g : (32 : Int) < (s.size : Int) := by omega
  clear hs
  rw [e]
  go_enter Tryz.func94, Tryz.ntmps94
  go_wp2_with fail
  go_ret
  exact ⟨rfl, rfl⟩
end Go.Proofs.YtkhalnjgbdpfhaaGreat
