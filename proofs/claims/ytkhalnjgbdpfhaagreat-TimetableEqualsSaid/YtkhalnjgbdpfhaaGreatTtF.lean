/-
  Few of the reference of timetables: what the call answers; nothing that existed before the call has changed behind it. Condition: none.
-/
import Derived.Test.YtkhalnjgbdpfhaaGreatTtS
namespace Go.Proofs.YtkhalnjgbdpfhaaGreat
open Go.RowKit

set_option maxRecDepth 100000 in
set_option maxHeartbeats 4000000 in
theorem rfew_any (a : Nat → Option Addr) (c : Nat → Nat) (T : Tt) (w : World) (h : TtL w a c T) : Calls Tryz.prog 6 #[ttV a c T] w fun e w' => e = .returned (.bool (fewT T)) ∧ Below w.heap.size w w' := by
  obtain ⟨w7, hw7⟩ : ∃ W, w.alloc (boxTt a c T) = W := ⟨_, rfl⟩
  obtain ⟨b7, s7, c7⟩ := box_tt hw7
  obtain ⟨p0, p1, p2, p3, p4, p5, p6, p7, p8, p9, p10, p11, p12⟩ := row_tt c7
  have B7 := Lib.hid b7
  have H := Lib.hid (h.below b7)
  obtain ⟨q, hq⟩ : ∃ q, fewT T = q := ⟨_, rfl⟩
  rw [hq]
  have HQ := Lib.hid hq
  clear b7 s7 c7 hq h
  by_cases n0 : ¬ T.st.length ≤ 70
  · have R : Hid (q = false) := Lib.hid (by rw [← HQ.out]; exact few_no (fun k => n0 k.1))
    have g0 : (70 : Int) < (T.st.length : Int) := by omega
    clear n0
    go_enter Tryz.func6, Tryz.ntmps6
    go_wp2_with fail
    go_ret
    exact ⟨ret_bool R.out.symm, B7.out⟩
  have h0 := Decidable.not_not.1 n0
  clear n0
  have g0 : decide ((70 : Int) < (T.st.length : Int)) = false := decide_eq_false (by omega)
  by_cases n1 : ¬ T.ro.length ≤ 70
  · have R : Hid (q = false) := Lib.hid (by rw [← HQ.out]; exact few_no (fun k => n1 k.2.1))
    have g1 : (70 : Int) < (T.ro.length : Int) := by omega
    clear n1 h0
    go_enter Tryz.func6, Tryz.ntmps6
    go_wp2_with fail
    go_ret
    exact ⟨ret_bool R.out.symm, B7.out⟩
  have h1 := Decidable.not_not.1 n1
  clear n1
  have g1 : decide ((70 : Int) < (T.ro.length : Int)) = false := decide_eq_false (by omega)
  by_cases n2 : ¬ T.ca.length ≤ 70
  · have R : Hid (q = false) := Lib.hid (by rw [← HQ.out]; exact few_no (fun k => n2 k.2.2.1))
    have g2 : (70 : Int) < (T.ca.length : Int) := by omega
    clear n2 h0 h1
    go_enter Tryz.func6, Tryz.ntmps6
    go_wp2_with fail
    go_ret
    exact ⟨ret_bool R.out.symm, B7.out⟩
  have h2 := Decidable.not_not.1 n2
  clear n2
  have g2 : decide ((70 : Int) < (T.ca.length : Int)) = false := decide_eq_false (by omega)
  by_cases n3 : ¬ T.ex.length ≤ 70
  · have R : Hid (q = false) := Lib.hid (by rw [← HQ.out]; exact few_no (fun k => n3 k.2.2.2.1))
    have g3 : (70 : Int) < (T.ex.length : Int) := by omega
    clear n3 h0 h1 h2
    go_enter Tryz.func6, Tryz.ntmps6
    go_wp2_with fail
    go_ret
    exact ⟨ret_bool R.out.symm, B7.out⟩
  have h3 := Decidable.not_not.1 n3
  clear n3
  have g3 : decide ((70 : Int) < (T.ex.length : Int)) = false := decide_eq_false (by omega)
  by_cases n4 : ¬ T.tr.length ≤ 40
  · have R : Hid (q = false) := Lib.hid (by rw [← HQ.out]; exact few_no (fun k => n4 k.2.2.2.2.1))
    have g4 : (40 : Int) < (T.tr.length : Int) := by omega
    clear n4 h0 h1 h2 h3
    go_enter Tryz.func6, Tryz.ntmps6
    go_wp2_with fail
    go_ret
    exact ⟨ret_bool R.out.symm, B7.out⟩
  have h4 := Decidable.not_not.1 n4
  clear n4
  have g4 : decide ((40 : Int) < (T.tr.length : Int)) = false := decide_eq_false (by omega)
  by_cases n5 : ¬ T.fr.length ≤ 70
  · have R : Hid (q = false) := Lib.hid (by rw [← HQ.out]; exact few_no (fun k => n5 k.2.2.2.2.2.1))
    have g5 : (70 : Int) < (T.fr.length : Int) := by omega
    clear n5 h0 h1 h2 h3 h4
    go_enter Tryz.func6, Tryz.ntmps6
    go_wp2_with fail
    go_ret
    exact ⟨ret_bool R.out.symm, B7.out⟩
  have h5 := Decidable.not_not.1 n5
  clear n5
  have g5 : decide ((70 : Int) < (T.fr.length : Int)) = false := decide_eq_false (by omega)
  by_cases n6 : ¬ T.th.length ≤ 140
  · have R : Hid (q = false) := Lib.hid (by rw [← HQ.out]; exact few_no (fun k => n6 k.2.2.2.2.2.2.1))
    have g6 : (140 : Int) < (T.th.length : Int) := by omega
    clear n6 h0 h1 h2 h3 h4 h5
    go_enter Tryz.func6, Tryz.ntmps6
    go_wp2_with fail
    go_ret
    exact ⟨ret_bool R.out.symm, B7.out⟩
  have h6 := Decidable.not_not.1 n6
  clear n6
  have g6 : decide ((140 : Int) < (T.th.length : Int)) = false := decide_eq_false (by omega)
  by_cases n7 : ¬ T.gu.length ≤ 140
  · have R : Hid (q = false) := Lib.hid (by rw [← HQ.out]; exact few_no (fun k => n7 k.2.2.2.2.2.2.2.1))
    have g7 : (140 : Int) < (T.gu.length : Int) := by omega
    clear n7 h0 h1 h2 h3 h4 h5 h6
    go_enter Tryz.func6, Tryz.ntmps6
    go_wp2_with fail
    go_ret
    exact ⟨ret_bool R.out.symm, B7.out⟩
  have h7 := Decidable.not_not.1 n7
  clear n7
  have g7 : decide ((140 : Int) < (T.gu.length : Int)) = false := decide_eq_false (by omega)
  by_cases n8 : ¬ T.pa.length ≤ 70
  · have R : Hid (q = false) := Lib.hid (by rw [← HQ.out]; exact few_no (fun k => n8 k.2.2.2.2.2.2.2.2.1))
    have g8 : (70 : Int) < (T.pa.length : Int) := by omega
    clear n8 h0 h1 h2 h3 h4 h5 h6 h7
    go_enter Tryz.func6, Tryz.ntmps6
    go_wp2_with fail
    go_ret
    exact ⟨ret_bool R.out.symm, B7.out⟩
  have h8 := Decidable.not_not.1 n8
  clear n8
  have g8 : decide ((70 : Int) < (T.pa.length : Int)) = false := decide_eq_false (by omega)
  by_cases n9 : ¬ T.pr.length ≤ 20
  · have R : Hid (q = false) := Lib.hid (by rw [← HQ.out]; exact few_no (fun k => n9 k.2.2.2.2.2.2.2.2.2))
    have g9 : (20 : Int) < (T.pr.length : Int) := by omega
    clear n9 h0 h1 h2 h3 h4 h5 h6 h7 h8
    go_enter Tryz.func6, Tryz.ntmps6
    go_wp2_with fail
    go_ret
    exact ⟨ret_bool R.out.symm, B7.out⟩
  have h9 := Decidable.not_not.1 n9
  clear n9
  have g9 : decide ((20 : Int) < (T.pr.length : Int)) = false := decide_eq_false (by omega)
  have FN : Hid (fewN T) := Lib.hid ⟨h0, h1, h2, h3, h4, h5, h6, h7, h8, h9⟩
  clear h0 h1 h2 h3 h5 h6 h7 h8 h9
  go_enter Tryz.func6, Tryz.ntmps6
  go_wp2_with fail
  clear g0 g1 g2 g3 g4 g5 g6 g7 g8 g9
  go_loop [3] (fun i => ∃ k : Nat, i = .int .i64 k ∧ k ≤ T.tr.length ∧ Hid (∀ (j : Nat) x, j < k → T.tr[j]? = some x → (clT x).length ≤ 40)) (fun i => T.tr.length - (intOf i).toNat)
  case atStart => exact ⟨0, rfl, Nat.zero_le _, Lib.hid (fun j x h => absurd h (Nat.not_lt_zero _))⟩
  case round =>
    obtain ⟨k, rfl, hk, hall⟩ := hrel
    by_cases hlt : k < T.tr.length
    · obtain ⟨⟨id, r, ca, f, v, cl⟩, hx⟩ := at_lt hlt
      obtain ⟨nm, hnm⟩ : ∃ nm, str id = nm := ⟨_, rfl⟩
      obtain ⟨b, o, B, m, hA, rfl, hb, r0, r1, r2, r3, r4, -, hcl, -⟩ := trip_at H.out.tr hx hnm
      have gk : (k : Int) < (T.tr.length : Int) := by omega
      rw [hA] at p4
      by_cases h40 : 40 < cl.length
      · have R : Hid (q = false) := Lib.hid (by rw [← HQ.out]; exact few_long hx h40)
        have g : (40 : Int) < (cl.length : Int) := by omega
        clear hx hnm hb hall h40 HQ H FN hA
        go_wp2_with fail
        go_ret
        exact ⟨ret_bool R.out.symm, B7.out⟩
      · have g : decide ((40 : Int) < (cl.length : Int)) = false := decide_eq_false (by omega)
        have N : Hid (∀ (j : Nat) x, j < k + 1 → T.tr[j]? = some x → (clT x).length ≤ 40) := Lib.hid (by
          intro j x hj hxx
          by_cases e : j = k
          · subst e
            rw [hx] at hxx
            cases hxx
            show cl.length ≤ 40
            omega
          · exact hall.out j x (by omega) hxx)
        clear hx hnm hb hall h40 HQ H FN hA
        go_wp2_with fail
        go_round
        case rel => exact ⟨k + 1, by go_num, by omega, N⟩
        case measure => simp [intOf]; omega
    · have dk : decide (k < T.tr.length) = false := by rw [decide_eq_false_iff_not]; exact hlt
      have R : Hid (q = true) := Lib.hid (by rw [← HQ.out]; exact few_yes FN.out (fun j x hj => hall.out j x (by omega)))
      clear hlt hall HQ H FN
      go_wp2_with fail
      go_ret
      exact ⟨ret_bool R.out.symm, B7.out⟩
end Go.Proofs.YtkhalnjgbdpfhaaGreat
