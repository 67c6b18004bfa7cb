/-
  The law ShortestWalks: it answers true for every input; nothing that existed before the call has changed behind it. Condition: ends of 64 bits.
-/
import Derived.Test.YtahbgafjljfndaaTTri
namespace Go.Proofs.Ytahbgafjljfndaa
open Go.RowKit

/-! ### least -/
theorem stepW_yes {a t : Nat} {w : Int} {e : Ed} (h1 : e.1 = a) (h2 : e.2.1 = t) (h3 : w < 0 ∨ (e.2.2 : Int) < w) : stepW a t w e = (e.2.2 : Int) := by unfold stepW; rw [if_pos ⟨h1, h2, h3⟩]
theorem stepW_no {a t : Nat} {w : Int} {e : Ed} (h : ¬ (e.1 = a ∧ e.2.1 = t ∧ (w < 0 ∨ (e.2.2 : Int) < w))) : stepW a t w e = w := by unfold stepW; rw [if_neg h]
theorem foldW_take {a t : Nat} {l : List Ed} {q : Nat} {e : Ed} (h : l[q]? = some e) : (l.take (q + 1)).foldl (stepW a t) (-1) = stepW a t ((l.take q).foldl (stepW a t) (-1)) e := by
  rw [take_at l q e h, List.foldl_append]; rfl
set_option maxRecDepth 100000 in
set_option maxHeartbeats 4000000 in
theorem wleast_any (a t : Nat) (v : Value) (L : List Ed) (hl : L.length ≤ 4096) (w : World) (h : LstD w v L) : Calls Try.prog 22 #[v, .int .i64 (a : Int), .int .i64 (t : Int)] w fun e w' => e = .returned (.int .i64 (leastW L a t)) ∧ w = w' := by
  have H := Lib.hid h
  obtain ⟨A, c, rfl, -, -, -⟩ := h
  go_enter Try.func22, Try.ntmps22
  go_wp2_with fail
  go_loop [7, 8] (fun m i => ∃ q : Nat, i = .int .i64 q ∧ q ≤ L.length ∧ m = .int .i64 ((L.take q).foldl (stepW a t) (-1))) (fun _ i => L.length - (intOf i).toNat)
  case atStart => exact ⟨0, rfl, Nat.zero_le _, rfl⟩
  case round =>
    obtain ⟨q, rfl, hq, rfl⟩ := hrel
    by_cases hlt : q < L.length
    · obtain ⟨e, he⟩ := at_lt hlt
      obtain ⟨b0, o, rfl, hb0, r0, r1, r2⟩ := three_at de_len H.out he rfl
      have FT := Lib.hid (foldW_take (a := a) (t := t) he)
      obtain ⟨x, y, z⟩ := e
      simp only at r0 r1 r2
      have gq : (q : Int) < (L.length : Int) := by omega
      obtain ⟨m, hm⟩ : ∃ r, (L.take q).foldl (stepW a t) (-1) = r := ⟨_, rfl⟩
      rw [hm] at FT ⊢
      have SY : Hid (x = a → y = t → (m < 0 ∨ (z : Int) < m) → (L.take (q + 1)).foldl (stepW a t) (-1) = (z : Int)) := by
        intro h1 h2 h3
        rw [FT.out]
        exact stepW_yes (e := (x, y, z)) h1 h2 h3
      have SN : Hid (¬ (x = a ∧ y = t ∧ (m < 0 ∨ (z : Int) < m)) → (L.take (q + 1)).foldl (stepW a t) (-1) = m) := by
        intro h1
        rw [FT.out]
        exact stepW_no (e := (x, y, z)) h1
      clear he hm FT
      by_cases h1 : x = a
      · have t1 := beq_true (a := (x : Int)) (b := (a : Int)) (by omega)
        by_cases h2 : y = t
        · have t2 := beq_true (a := (y : Int)) (b := (t : Int)) (by omega)
          by_cases h3 : m < 0
          · have E := Lib.hid (SY.out h1 h2 (.inl h3))
            clear SY SN h1 h2
            go_wp2_with fail
            go_round
            case rel => exact ⟨q + 1, by go_num, by omega, by rw [E.out]⟩
            case measure => simp [intOf]; omega
          · have t3 : decide (m < 0) = false := decide_eq_false h3
            by_cases h4 : (z : Int) < m
            · have E := Lib.hid (SY.out h1 h2 (.inr h4))
              clear SY SN h1 h2 h3
              go_wp2_with fail
              go_round
              case rel => exact ⟨q + 1, by go_num, by omega, by rw [E.out]⟩
              case measure => simp [intOf]; omega
            · have t4 : decide ((z : Int) < m) = false := decide_eq_false h4
              have E := Lib.hid (SN.out (by omega))
              clear SY SN h1 h2 h3 h4
              go_wp2_with fail
              go_round
              case rel => exact ⟨q + 1, by go_num, by omega, by rw [E.out]⟩
              case measure => simp [intOf]; omega
        · have t2 := beq_false (a := (y : Int)) (b := (t : Int)) (by omega)
          have E := Lib.hid (SN.out (by omega))
          clear SY SN h1 h2
          go_wp2_with fail
          go_round
          case rel => exact ⟨q + 1, by go_num, by omega, by rw [E.out]⟩
          case measure => simp [intOf]; omega
      · have t1 := beq_false (a := (x : Int)) (b := (a : Int)) (by omega)
        have E := Lib.hid (SN.out (by omega))
        clear SY SN h1
        go_wp2_with fail
        go_round
        case rel => exact ⟨q + 1, by go_num, by omega, by rw [E.out]⟩
        case measure => simp [intOf]; omega
    · have d0 : decide (q < L.length) = false := by rw [decide_eq_false_iff_not]; exact hlt
      have E : Hid ((L.take q).foldl (stepW a t) (-1) = leastW L a t) := by
        show _ = _
        rw [List.take_of_length_le (by omega)]
        rfl
      clear hlt
      go_wp2_with fail
      go_wp2_with fail
      go_ret
      exact ⟨ret_int E.out, rfl⟩
end Go.Proofs.Ytahbgafjljfndaa
