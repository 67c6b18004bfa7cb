/-
  Numbers read: the reference's Uint: what each call answers; nothing has changed. Condition: the slice's length is an int.
-/
import Derived.Test.YteojfgpinmpocaaEU
namespace Go.Proofs.Yteojfgpinmpocaa
open Go.RowKit

theorem mul_step (u y : Nat) (h : u * (y % 128) < 18446744073709551616) : IntKind.u64.wrap ((y : Int) % 128 * (u : Int)) = ((u * (y % 128) : Nat) : Int) := by
  have e : (y : Int) % 128 * (u : Int) = ((u * (y % 128) : Nat) : Int) := by rw [Int.mul_comm, Int.natCast_mul]; rfl
  rw [e, IntKind.wrap_u64, Int.emod_eq_of_lt (by omega) (by omega)]
set_option maxRecDepth 100000 in
set_option maxHeartbeats 1000000 in
theorem ruint_any (v : Value) (l : List UInt8) (hl : l.length ≤ 9223372036854775807) (a : Int) (w : World) (h : LstB w v l) : Calls Try.prog 25 #[v, .int .i64 a] w fun e w' => e = .returned (.tuple #[.int .u64 ((rU l a).1 : Int), .int .i64 ((rU l a).2.1), .int .i64 ((rU l a).2.2)]) ∧ w = w' := by
  by_cases ha : a < 0 ∨ (l.length : Int) < a
  · rw [rU_range ha]
    obtain ⟨A, c, rfl, -⟩ := h
    by_cases h0 : a < 0
    · clear ha
      go_enter Try.func25, Try.ntmps25
      go_wp2_with fail
      go_ret3
      exact ⟨rfl, rfl⟩
    · have g : decide (a < 0) = false := decide_eq_false h0
      have g2 : (l.length : Int) < a := ha.resolve_left h0
      clear ha h0
      go_enter Try.func25, Try.ntmps25
      go_wp2_with fail
      go_ret3
      exact ⟨rfl, rfl⟩
  · obtain ⟨p, rfl⟩ : ∃ p : Nat, a = p := ⟨a.toNat, by omega⟩
    have hp : p ≤ l.length := by omega
    obtain ⟨R, hR⟩ : ∃ R, rU l p = R := ⟨_, rfl⟩
    rw [hR]
    rw [finF_start l p hp] at hR
    have HR := Lib.hid hR
    have HL := Lib.hid hl
    obtain ⟨A, c, rfl, -, -, hcell⟩ := h
    have HX := Lib.hid hcell
    have g0 : decide ((p : Int) < 0) = false := decide_eq_false (by omega)
    have g1 : decide ((l.length : Int) < (p : Int)) = false := decide_eq_false (by omega)
    have g2 : decide (l.length < p) = false := decide_eq_false (by omega)
    clear ha hR hcell
    go_enter Try.func25, Try.ntmps25
    go_wp2_with fail
    go_loop [7, 8, 9] (fun nv uv iv => ∃ i a u : Nat, nv = .int .u64 (a : Int) ∧ uv = .int .u64 (u : Int) ∧ iv = .int .i64 (i : Int) ∧ Hid (p + i ≤ l.length ∧ i ≤ 9 ∧ u = 2 ^ (7 * i) ∧ a < u ∧ finF a u (p + i) (decF (9 - i) (decide (7 * i = 0)) (l.drop (p + i))) = R)) (fun _ _ iv => 10 - (intOf iv).toNat)
    case atStart => exact ⟨0, 0, 1, rfl, rfl, rfl, hp, by omega, rfl, by decide, HR.out⟩
    case round =>
      obtain ⟨i, a, u, rfl, rfl, rfl, hx⟩ := hrel
      obtain ⟨hq, hi, hu, ha, hr⟩ := hx.out
      have hi10 : (i : Int) < 10 := by omega
      clear hx HR
      by_cases hlt : p + i < l.length
      · obtain ⟨x, hx⟩ := at_lt hlt
        obtain ⟨b, o, rfl, hb, hcc⟩ := HX.out (by omega)
        have m : w.cell? ⟨b, o + (p + i), none⟩ = some (.int .u8 (x.toNat : Int)) := hcc (p + i) _ (bts_at l (p + i) x hx)
        clear hcc
        rw [drop_at l (p + i) x hx] at hr
        have hy := UInt8.toNat_lt x
        have k1 : decide ((l.length : Int) - (p : Int) ≤ (i : Int)) = false := decide_eq_false (by omega)
        have k2 : (p : Int) + (i : Int) < (l.length : Int) := by omega
        rw [hu] at hr
        by_cases h0 : x.toNat = 0
        · have t4 : ((x.toNat : Int) == 0) = true := beq_true (by omega)
          have h3 : x.toNat < 128 := by omega
          by_cases hz : 0 < i
          · have t6 : (0 : Int) < (i : Int) := by omega
            by_cases h9 : i = 9
            · have t1 : ((i : Int) == 9) = true := beq_true (by omega)
              have t2 : decide ((1 : Int) < (x.toNat : Int)) = false := decide_eq_false (by omega)
              have E := Lib.hid (fin_bad rfl hr (Or.inr ⟨by omega, h0⟩))
              generalize x.toNat = y at *
              clear hr hlt ha hu hi hq hx h0 h3 hz h9
              go_wp2_with fail
              go_ret3
              exact ⟨ret_R E.out, rfl⟩
            · have t1 : ((i : Int) == 9) = false := beq_false (by omega)
              have E := Lib.hid (fin_bad rfl hr (Or.inr ⟨by omega, h0⟩))
              generalize x.toNat = y at *
              clear hr hlt ha hu hi hq hx h0 h3 hz h9
              go_wp2_with fail
              go_ret3
              exact ⟨ret_R E.out, rfl⟩
          · obtain rfl : i = 0 := by omega
            have E := Lib.hid (fin_last hi rfl hr (by omega) (by omega) h3)
            have t5 : (x.toNat : Int) < 128 := by omega
            rw [← hu] at E
            clear hr
            generalize x.toNat = y at *
            clear hlt hi hi10 hx h3 h0 hz
            simp only [Nat.reduceMul, Nat.reducePow] at hu
            subst hu
            rw [Nat.add_zero] at m
            go_wp2_with fail
            go_ret3
            exact ⟨ret_R (by have := E.out; omega), rfl⟩
        · have t4 : ((x.toNat : Int) == 0) = false := beq_false (by omega)
          by_cases h9 : i = 9 ∧ 1 < x.toNat
          · obtain ⟨h9, h1⟩ := h9
            have t1 : ((i : Int) == 9) = true := beq_true (by omega)
            have t2 : (1 : Int) < (x.toNat : Int) := by omega
            have E := Lib.hid (fin_bad rfl hr (Or.inl ⟨by omega, h1⟩))
            generalize x.toNat = y at *
            clear hr hlt ha hu hi hq hx h0 h9 h1
            go_wp2_with fail
            go_ret3
            exact ⟨ret_R E.out, rfl⟩
          · have t2 : i = 9 → decide ((1 : Int) < (x.toNat : Int)) = false := fun h => decide_eq_false (by omega)
            by_cases h3 : x.toNat < 128
            · have E := Lib.hid (fin_last hi rfl hr (by omega) (by omega) h3)
              have t5 : (x.toNat : Int) < 128 := by omega
              have c10 : i = 9 ∨ i = 0 ∨ i = 1 ∨ i = 2 ∨ i = 3 ∨ i = 4 ∨ i = 5 ∨ i = 6 ∨ i = 7 ∨ i = 8 := by omega
              rw [← hu] at E
              clear hr
              generalize x.toNat = y at *
              clear hlt hi hi10 hx h0
              rcases c10 with rfl | c9
              · have t2' := t2 rfl
                have n9 : y ≤ 1 := by omega
                clear t2 h9 h3
                simp only [Nat.reduceMul, Nat.reducePow] at hu
                subst hu
                go_wp2_with fail
                go_ret3
                exact ⟨ret_R (by have := E.out; omega), rfl⟩
              · clear t2 h9 h3
                rcases c9 with rfl | rfl | rfl | rfl | rfl | rfl | rfl | rfl | rfl
                all_goals
                  simp only [Nat.reduceMul, Nat.reducePow] at hu
                  subst hu
                  try rw [Nat.add_zero] at m
                  go_wp2_with fail
                  go_ret3
                  exact ⟨ret_R (by have := E.out; omega), rfl⟩
            · obtain ⟨hi8, hr2⟩ := fin_more hi rfl hr (by omega) (by omega)
              have s0 : a + u * (x.toNat % 128) < 2 ^ (7 * (i + 1)) := by
                rw [hu] at ha ⊢
                exact acc_lt ha (Nat.mod_lt _ (by decide))
              rw [← hu] at hr2
              have N : Hid (p + (i + 1) ≤ l.length ∧ i + 1 ≤ 9 ∧ u * 128 = 2 ^ (7 * (i + 1)) ∧ a + u * (x.toNat % 128) < u * 128 ∧ finF (a + u * (x.toNat % 128)) (u * 128) (p + (i + 1)) (decF (9 - (i + 1)) (decide (7 * (i + 1) = 0)) (l.drop (p + (i + 1)))) = R) := by
                have e1 : u * 128 = 2 ^ (7 * (i + 1)) := by rw [pow_next, hu]
                refine ⟨by omega, by omega, e1, by rw [e1]; exact s0, ?_⟩
                rw [e1]
                exact hr2
              have t5 : decide ((x.toNat : Int) < 128) = false := by simp; omega
              have c9 : i = 0 ∨ i = 1 ∨ i = 2 ∨ i = 3 ∨ i = 4 ∨ i = 5 ∨ i = 6 ∨ i = 7 ∨ i = 8 := by omega
              clear hr hr2 s0 t2
              generalize x.toNat = y at *
              clear hlt hi hi8 hi10 hx h3 h0 h9
              rcases c9 with rfl | rfl | rfl | rfl | rfl | rfl | rfl | rfl | rfl
              all_goals
                simp only [Nat.reduceMul, Nat.reducePow] at hu
                subst hu
                try rw [Nat.add_zero] at m
                go_wp2_with fail
                go_round
                case rel => exact ⟨_, _, _, by go_num, by go_num, by go_num, N⟩
                case measure => simp [intOf]
      · have E := Lib.hid (show (R.1 : Int) = 0 ∧ R.2.1 = 0 ∧ R.2.2 = 4 by rw [← hr, List.drop_eq_nil_of_le (by omega), decF_nil]; exact ⟨rfl, rfl, rfl⟩)
        have k1 : (l.length : Int) - (p : Int) ≤ (i : Int) := by omega
        clear hr hlt ha hu hi hq
        go_wp2_with fail
        go_ret3
        exact ⟨ret_R E.out, rfl⟩
end Go.Proofs.Yteojfgpinmpocaa
