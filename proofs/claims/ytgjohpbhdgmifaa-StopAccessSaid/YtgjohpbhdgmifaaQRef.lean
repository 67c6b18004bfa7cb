/-
  The reference's Find, Zones, InZone, StepFree of tables of stops: what each call answers; nothing that existed before the call has changed behind it. Condition: lists of fewer than 2^40 stops.
-/
import Derived.Test.YtgjohpbhdgmifaaQSt
namespace Go.Proofs.Ytgjohpbhdgmifaa
open Go.RowKit

set_option maxRecDepth 100000 in
set_option maxHeartbeats 4000000 in
theorem rfind_any (v : Value) (l : List St) (hl : l.length ≤ 1099511627776) (id : List UInt8) (t : ByteArray) (ht : str id = t) (w : World) (h : LstS w v l) : Calls Try.prog 15 #[v, .string t] w fun e w' => e = .returned (.int .i64 (fndT l id)) ∧ w = w' := by
  have H := Lib.hid h
  have HT := Lib.hid ht
  clear ht
  obtain ⟨A, c, rfl, -, -, -⟩ := h
  obtain ⟨r, hr⟩ : ∃ r, fndT l id = r := ⟨_, rfl⟩
  rw [hr]
  have HR := Lib.hid hr
  clear hr
  go_enter Try.func15, Try.ntmps15
  go_wp2_with fail
  go_loop [5] (fun i => ∃ k : Nat, i = .int .i64 k ∧ k ≤ l.length ∧ Hid (fndT l id = fndF id k (l.drop k))) (fun i => l.length - (intOf i).toNat)
  case atStart => exact ⟨0, rfl, Nat.zero_le _, Lib.hid rfl⟩
  case round =>
    obtain ⟨k, rfl, hk, hz⟩ := hrel
    by_cases hlt : k < l.length
    · obtain ⟨⟨ix, z, f, ch⟩, hx⟩ := at_lt hlt
      obtain ⟨nm, hnm⟩ : ∃ nm, str ix = nm := ⟨_, rfl⟩
      obtain ⟨b, o, rfl, hb, r0, r1, r2, r3⟩ := four_at H.out hx hnm
      have gk : (k : Int) < (l.length : Int) := by omega
      by_cases he : ix = id
      · have g := bytes_eq (a := nm) (b := t) (by rw [← hnm, ← HT.out, he])
        have R : Hid (r = (k : Int)) := by
          show _ = _
          rw [← HR.out, hz.out, fndF_hit hx he]
        clear hx hz hnm hb he hlt HR HT
        go_wp2_with fail
        go_ret
        exact ⟨ret_int R.out.symm, rfl⟩
      · have g := bytes_ne (a := nm) (b := t) (str_ne hnm HT.out he)
        have N : Hid (fndT l id = fndF id (k + 1) (l.drop (k + 1))) := by
          show _ = _
          rw [hz.out, fndF_miss hx he]
        clear hx hz hnm hb he
        go_wp2_with fail
        go_round
        case rel => exact ⟨k + 1, by go_num, by omega, N⟩
        case measure => simp [intOf]; omega
    · have R : Hid (r = -1) := by
        show _ = _
        rw [← HR.out, hz.out, fndF_end (by omega)]
      have d : decide (k < l.length) = false := by rw [decide_eq_false_iff_not]; exact hlt
      clear hz hlt HR HT
      go_wp2_with fail
      go_ret
      exact ⟨ret_int R.out.symm, rfl⟩
theorem shl_one {z : Int} (h0 : 0 ≤ z) (h1 : z < 64) : IntKind.u64.wrap (2 ^ z.toNat) = ((one z : Nat) : Int) := by
  have hp : 2 ^ z.toNat < 18446744073709551616 := pow_lt64 (by omega)
  unfold one
  rw [if_pos (by omega), IntKind.wrap_u64, two_cast]
  exact Int.emod_eq_of_lt (Int.natCast_nonneg _) (by omega)
set_option maxRecDepth 100000 in
set_option maxHeartbeats 4000000 in
theorem rzones_any (v : Value) (l : List St) (hl : l.length ≤ 1099511627776) (w : World) (h : LstS w v l) : Calls Try.prog 17 #[v] w fun e w' => e = .returned (.int .u64 ((zonT l : Nat) : Int)) ∧ w = w' := by
  have H := Lib.hid h
  obtain ⟨A, c, rfl, -, -, -⟩ := h
  obtain ⟨r, hr⟩ : ∃ r, zonT l = r := ⟨_, rfl⟩
  rw [hr]
  have HR := Lib.hid hr
  clear hr
  go_enter Try.func17, Try.ntmps17
  go_wp2_with fail
  go_loop [3, 4] (fun u i => ∃ k s : Nat, u = .int .u64 (s : Int) ∧ i = .int .i64 k ∧ k ≤ l.length ∧ W64 s ∧ Hid (zonT l = zonF s (l.drop k))) (fun _ i => l.length - (intOf i).toNat)
  case atStart => exact ⟨0, 0, rfl, rfl, Nat.zero_le _, by decide, Lib.hid rfl⟩
  case round =>
    obtain ⟨k, s, rfl, rfl, hk, hs, hz⟩ := hrel
    by_cases hlt : k < l.length
    · obtain ⟨⟨id, z, f, ch⟩, hx⟩ := at_lt hlt
      have N := Lib.hid (zonF_next hz.out hx)
      simp only at N
      obtain ⟨nm, hnm⟩ : ∃ nm, str id = nm := ⟨_, rfl⟩
      obtain ⟨b, o, rfl, hb, r0, r1, r2, r3⟩ := four_at H.out hx hnm
      have gk : (k : Int) < (l.length : Int) := by omega
      have far : z < 0 ∨ 64 ≤ z → s ||| one z = s := fun h => by unfold one; rw [if_neg (by omega), Nat.or_zero]
      by_cases z0 : z < 0
      · rw [far (.inl z0)] at N
        have d0 : decide (0 ≤ z) = false := by rw [decide_eq_false_iff_not]; omega
        clear hx hz hnm hb far
        go_wp2_with fail
        go_round
        case rel => exact ⟨k + 1, s, rfl, by go_num, by omega, hs, N⟩
        case measure => simp [intOf]; omega
      · by_cases z1 : 64 ≤ z
        · rw [far (.inr z1)] at N
          have d0 : 0 ≤ z := by omega
          have d1 : decide (z < 64) = false := by rw [decide_eq_false_iff_not]; omega
          clear hx hz hnm hb far z0 z1
          go_wp2_with fail
          go_round
          case rel => exact ⟨k + 1, s, rfl, by go_num, by omega, hs, N⟩
          case measure => simp [intOf]; omega
        · have LT : Hid (W64 (s ||| one z)) := or_lt hs (one_lt z)
          have d0 : 0 ≤ z := by omega
          have d1 : z < 64 := by omega
          have e1 := shl_one d0 d1
          have e := bits_or_u64_nat s (one z) hs (one_lt z)
          generalize s ||| one z = s2 at N LT e
          generalize one z = y at e e1
          clear hx hz hnm hb far z0 z1
          go_wp2_with fail
          go_round
          case rel => exact ⟨k + 1, s2, rfl, by go_num, by omega, LT.out, N⟩
          case measure => simp [intOf]; omega
    · have R := Lib.hid (zonF_done hz.out (by omega))
      have d : decide (k < l.length) = false := by rw [decide_eq_false_iff_not]; exact hlt
      clear hz hlt
      go_wp2_with fail
      go_ret
      exact ⟨ret_uw (by rw [← HR.out, R.out]), rfl⟩
set_option maxRecDepth 100000 in
set_option maxHeartbeats 4000000 in
theorem rin_any (v : Value) (l : List St) (hl : l.length ≤ 1000000) (q : Int) (w : World) (h : LstS w v l) : Calls Try.prog 20 #[v, .int .i64 q] w fun e w' => ∃ u, e = .returned u ∧ OwnI w' w.heap.size u (inT l q) ∧ Below w.heap.size w w' := by
  have H := Lib.hid h
  obtain ⟨A, c, rfl, -, -, -⟩ := h
  go_enter Try.func20, Try.ntmps20
  go_wp2_with fail
  go_loopw [5, 6] (fun u i wr => ∃ k : Nat, i = .int .i64 k ∧ k ≤ l.length ∧ Hid (OwnI wr w.heap.size u (inT (l.take k) q)) ∧ Hid (Below w.heap.size w wr)) (fun _ i _ => l.length - (intOf i).toNat)
  case atStart => exact ⟨0, rfl, Nat.zero_le _, Lib.hid (OwnI.nil _ _), Lib.hid (Below.refl _ _)⟩
  case round =>
    obtain ⟨k, rfl, hk, HO, HB⟩ := hrel
    by_cases hlt : k < l.length
    · obtain ⟨⟨ix, z, f, ch⟩, hx⟩ := at_lt hlt
      obtain ⟨nm, hnm⟩ : ∃ nm, str ix = nm := ⟨_, rfl⟩
      obtain ⟨b, o, rfl, hb, r0, r1, r2, r3⟩ := four_at (H.out.below HB.out) hx hnm
      have gk : (k : Int) < (l.length : Int) := by omega
      by_cases he : z = q
      · have g := beq_true he
        have N := Lib.hid (inT_hit hx he)
        have hlen : (inT (l.take k) q).length ≤ 1000000 := by
          have := inT_le (l.take k) q
          rw [List.length_take] at this
          omega
        have hz := HB.out.size
        clear hx hnm hb he
        go_wp2_with (at_builtin; refine app_int _ rfl _ _ rfl w.heap.size _ (inT (l.take k) q) (k : Int) rfl (OwnI.below HO.out ((Below.refl _ _).alloc (Nat.le_refl _) _)) wr.heap.size _ (heap_alloc_new _ _) rfl rfl (by simp; omega) (by omega) ?_
                     intro v1 w1 own1 b1
                     have O1 := Lib.hid own1
                     have B1 : Hid (Below w.heap.size w w1) := (HB.out.alloc hz _).trans b1
                     clear own1 b1)
        go_roundw
        case rel => exact ⟨k + 1, by go_num, by omega, by rw [N.out]; exact O1, B1⟩
        case measure => simp [intOf]; omega
      · have g := beq_false he
        have N := Lib.hid (inT_miss hx he)
        clear hx hnm hb he
        go_wp2_with fail
        go_roundw
        case rel => exact ⟨k + 1, by go_num, by omega, by rw [N.out]; exact HO, HB⟩
        case measure => simp [intOf]; omega
    · have E : Hid (OwnI wr w.heap.size u5 (inT l q)) := by
        have := HO.out
        rw [List.take_of_length_le (by omega)] at this
        exact this
      have d : decide (k < l.length) = false := by rw [decide_eq_false_iff_not]; exact hlt
      clear hlt HO
      go_wp2_with fail
      go_ret
      exact ⟨_, rfl, E.out, HB.out⟩
set_option maxRecDepth 100000 in
set_option maxHeartbeats 4000000 in
theorem rfree_any (v : Value) (l : List St) (_ : l.length ≤ 1099511627776) (w : World) (h : LstS w v l) : Calls Try.prog 22 #[v] w fun e w' => e = .returned (.int .u64 ((freT l : Nat) : Int)) ∧ w = w' := by
  have H := Lib.hid h
  obtain ⟨A, c, rfl, -, -, -⟩ := h
  obtain ⟨r, hr⟩ : ∃ r, freT l = r := ⟨_, rfl⟩
  rw [hr]
  have HR := Lib.hid hr
  clear hr
  go_enter Try.func22, Try.ntmps22
  go_wp2_with fail
  go_loop [3, 4] (fun u i => ∃ k s : Nat, u = .int .u64 (s : Int) ∧ i = .int .i64 k ∧ k ≤ l.length ∧ W64 s ∧ Hid (freT l = freF s k (l.drop k))) (fun _ i => l.length - (intOf i).toNat)
  case atStart => exact ⟨0, 0, rfl, rfl, Nat.zero_le _, by decide, Lib.hid rfl⟩
  case round =>
    obtain ⟨k, s, rfl, rfl, hk, hs, hz⟩ := hrel
    by_cases hlt : k < l.length
    · by_cases h64 : k < 64
      · obtain ⟨⟨id, z, f, ch⟩, hx⟩ := at_lt hlt
        obtain ⟨nm, hnm⟩ : ∃ nm, str id = nm := ⟨_, rfl⟩
        obtain ⟨b, o, rfl, hb, r0, r1, r2, r3⟩ := four_at H.out hx hnm
        have gk : (k : Int) < (l.length : Int) := by omega
        have g64 : (k : Int) < 64 := by omega
        cases f with
        | true =>
          have N := Lib.hid (freF_yes hz.out hx rfl)
          have LT : Hid (W64 (s ||| one (k : Int))) := or_lt hs (one_lt _)
          have e1 := shl_one (z := (k : Int)) (by omega) g64
          rw [Int.toNat_natCast] at e1
          have e := bits_or_u64_nat s (one (k : Int)) hs (one_lt _)
          generalize s ||| one (k : Int) = s2 at N LT e
          generalize one (k : Int) = y at e e1
          clear hx hz hnm hb
          go_wp2_with fail
          go_round
          case rel => exact ⟨k + 1, s2, rfl, by go_num, by omega, LT.out, N⟩
          case measure => simp [intOf]; omega
        | false =>
          have N := Lib.hid (freF_no hz.out hx rfl)
          clear hx hz hnm hb
          go_wp2_with fail
          go_round
          case rel => exact ⟨k + 1, s, rfl, by go_num, by omega, hs, N⟩
          case measure => simp [intOf]; omega
      · have R : Hid (r = s) := by
          show _ = _
          rw [← HR.out, hz.out, freF_far _ _ _ (by omega)]
        have gk : (k : Int) < (l.length : Int) := by omega
        have g64 : decide ((k : Int) < 64) = false := by rw [decide_eq_false_iff_not]; omega
        clear hz h64 HR
        go_wp2_with fail
        go_ret
        exact ⟨ret_uw R.out.symm, rfl⟩
    · have R := Lib.hid (freF_done hz.out (by omega))
      have d : decide (k < l.length) = false := by rw [decide_eq_false_iff_not]; exact hlt
      clear hz hlt
      go_wp2_with fail
      go_ret
      exact ⟨ret_uw (by rw [← HR.out, R.out]), rfl⟩
end Go.Proofs.Ytgjohpbhdgmifaa
