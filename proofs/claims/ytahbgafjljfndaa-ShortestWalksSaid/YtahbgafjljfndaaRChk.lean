/-
  The reference's Check, costs, turned of graphs: what each call answers; nothing that existed before the call has changed behind it. Condition: lists of fewer than 2^63 edges.
-/
import Derived.Test.YtahbgafjljfndaaGr
namespace Go.Proofs.Ytahbgafjljfndaa
open Go.RowKit

theorem chk_far {n : Int} {l : List Er} (h : n < 0 ∨ 64 < n) : chkR n l = 2 := by unfold chkR; rw [if_pos h]
theorem chk_many {n : Int} {l : List Er} (h : ¬ (n < 0 ∨ 64 < n)) (h2 : 4096 < l.length) : chkR n l = 5 := by unfold chkR; rw [if_neg h, if_pos h2]
theorem chk_list {n : Int} {l : List Er} (h : ¬ (n < 0 ∨ 64 < n)) (h2 : ¬ 4096 < l.length) : chkR n l = chkL n l := by unfold chkR; rw [if_neg h, if_neg h2]
theorem chkE_node {n : Int} {e : Er} (h : e.1 < 0 ∨ n ≤ e.1 ∨ e.2.1 < 0 ∨ n ≤ e.2.1) : chkE n e = 9 := by unfold chkE; rw [if_pos h]
theorem chkE_low {n : Int} {e : Er} (h : ¬ (e.1 < 0 ∨ n ≤ e.1 ∨ e.2.1 < 0 ∨ n ≤ e.2.1)) (h2 : e.2.2 < 0 ∨ 1073741824 < e.2.2) : chkE n e = 2 := by unfold chkE; rw [if_neg h, if_pos h2]
theorem chkE_none {n : Int} {e : Er} (h : ¬ (e.1 < 0 ∨ n ≤ e.1 ∨ e.2.1 < 0 ∨ n ≤ e.2.1)) (h2 : ¬ (e.2.2 < 0 ∨ 1073741824 < e.2.2)) : chkE n e = 0 := by unfold chkE; rw [if_neg h, if_neg h2]
set_option maxHeartbeats 4000000 in
/-- The reference's Check. -/
theorem rcheck_any (n : Int) (v : Value) (l : List Er) (hl : l.length ≤ 9223372036854775807) (w : World) (h : LstR w v l) : Calls Try.prog 21 #[.int .i64 n, v] w fun e w' => e = .returned (.int .i64 (chkR n l)) ∧ w = w' := by
  have H := Lib.hid h
  obtain ⟨A, c, rfl, -, -, -⟩ := h
  by_cases h1 : n < 0
  · have R := Lib.hid (chk_far (l := l) (.inl h1))
    go_enter Try.func21, Try.ntmps21
    go_wp2_with fail
    go_ret
    exact ⟨ret_int R.out.symm, rfl⟩
  have d1 : decide (n < 0) = false := decide_eq_false h1
  by_cases h2 : 64 < n
  · have R := Lib.hid (chk_far (l := l) (.inr h2))
    clear h1
    go_enter Try.func21, Try.ntmps21
    go_wp2_with fail
    go_ret
    exact ⟨ret_int R.out.symm, rfl⟩
  have d2 : decide (64 < n) = false := decide_eq_false h2
  have h12 : ¬ (n < 0 ∨ 64 < n) := by omega
  by_cases h3 : 4096 < l.length
  · have R := Lib.hid (chk_many h12 h3)
    have g : (4096 : Int) < (l.length : Int) := by omega
    clear h1 h2 h12 h3
    go_enter Try.func21, Try.ntmps21
    go_wp2_with fail
    go_ret
    exact ⟨ret_int R.out.symm, rfl⟩
  have d3 : decide ((4096 : Int) < (l.length : Int)) = false := by rw [decide_eq_false_iff_not]; omega
  have R := Lib.hid (chk_list h12 h3)
  have hl2 : l.length ≤ 4096 := by omega
  have n0 : (0 : Int) ≤ n := by omega
  have n1 : n ≤ 64 := by omega
  clear h1 h2 h12 h3
  go_enter Try.func21, Try.ntmps21
  go_wp2_with fail
  go_loop [5] (fun i => ∃ k : Nat, i = .int .i64 k ∧ k ≤ l.length ∧ Hid (chkL n l = chkL n (l.drop k))) (fun i => l.length - (intOf i).toNat)
  case atStart => exact ⟨0, rfl, Nat.zero_le _, Lib.hid rfl⟩
  case round =>
    clear d1 d2 d3
    obtain ⟨k, rfl, hk, hr⟩ := hrel
    by_cases hlt : k < l.length
    · obtain ⟨e, he⟩ := at_lt hlt
      obtain ⟨b, o, rfl, hb, m0, m1, m2⟩ := three_at er_len H.out he rfl
      obtain ⟨x, y, z⟩ := e
      simp only at m0 m1 m2
      have hd := hr.out.trans (chkL_drop (n := n) he)
      have gk : (k : Int) < (l.length : Int) := by omega
      clear he hr
      by_cases a1 : x < 0
      · have E : Hid (chkR n l = 9) := by rw [R.out, hd, chkE_node (.inl a1)]; rfl
        clear hd
        go_wp2_with fail
        go_wp2_with fail
        go_ret
        exact ⟨ret_int E.out.symm, rfl⟩
      have f1 : decide (x < 0) = false := decide_eq_false a1
      by_cases a2 : n ≤ x
      · have E : Hid (chkR n l = 9) := by rw [R.out, hd, chkE_node (.inr (.inl a2))]; rfl
        clear hd a1
        go_wp2_with fail
        go_wp2_with fail
        go_ret
        exact ⟨ret_int E.out.symm, rfl⟩
      have f2 : decide (n ≤ x) = false := decide_eq_false a2
      by_cases a3 : y < 0
      · have E : Hid (chkR n l = 9) := by rw [R.out, hd, chkE_node (.inr (.inr (.inl a3)))]; rfl
        clear hd a1 a2
        go_wp2_with fail
        go_wp2_with fail
        go_ret
        exact ⟨ret_int E.out.symm, rfl⟩
      have f3 : decide (y < 0) = false := decide_eq_false a3
      by_cases a4 : n ≤ y
      · have E : Hid (chkR n l = 9) := by rw [R.out, hd, chkE_node (.inr (.inr (.inr a4)))]; rfl
        clear hd a1 a2 a3
        go_wp2_with fail
        go_wp2_with fail
        go_ret
        exact ⟨ret_int E.out.symm, rfl⟩
      have f4 : decide (n ≤ y) = false := decide_eq_false a4
      have a5 : ¬ (x < 0 ∨ n ≤ x ∨ y < 0 ∨ n ≤ y) := by omega
      by_cases a6 : z < 0
      · have E : Hid (chkR n l = 2) := by rw [R.out, hd, chkE_low a5 (.inl a6)]; rfl
        clear hd a1 a2 a3 a4 a5
        go_wp2_with fail
        go_wp2_with fail
        go_ret
        exact ⟨ret_int E.out.symm, rfl⟩
      have f6 : decide (z < 0) = false := decide_eq_false a6
      by_cases a7 : 1073741824 < z
      · have E : Hid (chkR n l = 2) := by rw [R.out, hd, chkE_low a5 (.inr a7)]; rfl
        clear hd a1 a2 a3 a4 a5 a6
        go_wp2_with fail
        go_wp2_with fail
        go_ret
        exact ⟨ret_int E.out.symm, rfl⟩
      have f7 : decide (1073741824 < z) = false := decide_eq_false a7
      have E : Hid (chkL n l = chkL n (l.drop (k + 1))) := by
        show _ = _
        rw [hd, chkE_none a5 (by show ¬ (z < 0 ∨ 1073741824 < z); omega), if_pos rfl]
      clear hd a1 a2 a3 a4 a5 a6 a7
      go_wp2_with fail
      go_round
      case rel => exact ⟨k + 1, by go_num, by omega, E⟩
      case measure => simp [intOf]; omega
    · have E : Hid (chkR n l = 0) := by rw [R.out, hr.out, List.drop_of_length_le (by omega)]; rfl
      have d : decide (k < l.length) = false := by rw [decide_eq_false_iff_not]; exact hlt
      clear hlt hr
      go_wp2_with fail
      go_wp2_with fail
      go_ret
      exact ⟨ret_int E.out.symm, rfl⟩
end Go.Proofs.Ytahbgafjljfndaa
