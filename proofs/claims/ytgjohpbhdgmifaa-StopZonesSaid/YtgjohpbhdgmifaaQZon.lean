/-
  The code's Zones, StepFree, InZone, Find of tables of stops: what each call answers; nothing that existed before the call has changed behind it. Condition: lists of fewer than 2^40 stops.
-/
import Derived.Test.YtgjohpbhdgmifaaQSt
namespace Go.Proofs.Ytgjohpbhdgmifaa
open Go.RowKit

set_option maxRecDepth 100000 in
set_option maxHeartbeats 4000000 in
theorem kzones_any (v : Value) (l : List St) (hl : l.length ≤ 1099511627776) (w : World) (h : LstS w v l) : Calls Try.prog 16 #[v] w fun e w' => e = .returned (.int .u64 ((zonT l : Nat) : Int)) ∧ Below w.heap.size w w' := by
  have H := Lib.hid h
  obtain ⟨A, c, rfl, -, -, -⟩ := h
  obtain ⟨r, hr⟩ : ∃ r, zonT l = r := ⟨_, rfl⟩
  rw [hr]
  have HR := Lib.hid hr
  clear hr
  go_enter Try.func16, Try.ntmps16
  go_wp2_with fail
  go_loopw [3, 8] (fun u i wr => ∃ k s : Nat, u = .int .u64 (s : Int) ∧ i = .int .i64 k ∧ k ≤ l.length ∧ W64 s ∧ Hid (zonT l = zonF s (l.drop k)) ∧ Hid (Below w.heap.size w wr)) (fun _ i _ => l.length - (intOf i).toNat)
  case atStart => exact ⟨0, 0, rfl, rfl, Nat.zero_le _, by decide, Lib.hid rfl, Lib.hid (Below.refl _ _)⟩
  case round =>
    obtain ⟨k, s, rfl, rfl, hk, hs, hz, HB⟩ := hrel
    by_cases hlt : k < l.length
    · obtain ⟨⟨id, z, f, ch⟩, hx⟩ := at_lt hlt
      have N := Lib.hid (zonF_next hz.out hx)
      simp only at N
      obtain ⟨nm, hnm⟩ : ∃ nm, str id = nm := ⟨_, rfl⟩
      obtain ⟨b, o, rfl, hb, r0, r1, r2, r3⟩ := four_at (H.out.below HB.out) hx hnm
      have gk : (k : Int) < (l.length : Int) := by omega
      obtain ⟨w7, hw7⟩ : ∃ W, wr.alloc (.cells #[.string nm, .int .i64 z, .bool f, .int .i64 ch] 43 (0, 0)) = W := ⟨_, rfl⟩
      obtain ⟨b7, p0, p1, p2, p3, -⟩ := box_st hw7
      have B7 : Hid (Below w.heap.size w w7) := HB.out.trans (b7.mono HB.out.size)
      have LT : Hid (W64 (s ||| one z)) := or_lt hs (one_lt z)
      have C := Lib.hid (fun W => with_any s hs z W)
      generalize s ||| one z = s2 at N LT C
      clear hx hz HB b7 hnm hb hs
      go_wp2_with fail
      refine (C.out _).mono ?_
      rintro e w' ⟨rfl, rfl⟩
      go_wp2_with fail
      go_roundw
      case rel => exact ⟨k + 1, s2, rfl, by go_num, by omega, LT.out, N, B7⟩
      case measure => simp [intOf]; omega
    · have R := Lib.hid (zonF_done hz.out (by omega))
      have d : decide (k < l.length) = false := by rw [decide_eq_false_iff_not]; exact hlt
      clear hz hlt
      go_wp2_with fail
      go_ret
      exact ⟨ret_uw (by rw [← HR.out, R.out]), HB.out⟩
set_option maxRecDepth 100000 in
set_option maxHeartbeats 4000000 in
theorem kfree_any (v : Value) (l : List St) (hl : l.length ≤ 1099511627776) (w : World) (h : LstS w v l) : Calls Try.prog 21 #[v] w fun e w' => e = .returned (.int .u64 ((freT l : Nat) : Int)) ∧ Below w.heap.size w w' := by
  have H := Lib.hid h
  obtain ⟨A, c, rfl, -, -, -⟩ := h
  obtain ⟨r, hr⟩ : ∃ r, freT l = r := ⟨_, rfl⟩
  rw [hr]
  have HR := Lib.hid hr
  clear hr
  go_enter Try.func21, Try.ntmps21
  go_wp2_with fail
  go_loopw [3, 8] (fun u i wr => ∃ k s : Nat, u = .int .u64 (s : Int) ∧ i = .int .i64 k ∧ k ≤ l.length ∧ W64 s ∧ Hid (freT l = freF s k (l.drop k)) ∧ Hid (Below w.heap.size w wr)) (fun _ i _ => l.length - (intOf i).toNat)
  case atStart => exact ⟨0, 0, rfl, rfl, Nat.zero_le _, by decide, Lib.hid rfl, Lib.hid (Below.refl _ _)⟩
  case round =>
    obtain ⟨k, s, rfl, rfl, hk, hs, hz, HB⟩ := hrel
    by_cases hlt : k < l.length
    · obtain ⟨⟨id, z, f, ch⟩, hx⟩ := at_lt hlt
      obtain ⟨nm, hnm⟩ : ∃ nm, str id = nm := ⟨_, rfl⟩
      obtain ⟨b, o, rfl, hb, r0, r1, r2, r3⟩ := four_at (H.out.below HB.out) hx hnm
      have gk : (k : Int) < (l.length : Int) := by omega
      obtain ⟨w7, hw7⟩ : ∃ W, wr.alloc (.cells #[.string nm, .int .i64 z, .bool f, .int .i64 ch] 43 (0, 0)) = W := ⟨_, rfl⟩
      obtain ⟨b7, p0, p1, p2, p3, -⟩ := box_st hw7
      have B7 : Hid (Below w.heap.size w w7) := HB.out.trans (b7.mono HB.out.size)
      cases f with
      | true =>
        have N := Lib.hid (freF_yes hz.out hx rfl)
        have LT : Hid (W64 (s ||| one (k : Int))) := or_lt hs (one_lt _)
        have C := Lib.hid (fun W => with_any s hs (k : Int) W)
        generalize s ||| one (k : Int) = s2 at N LT C
        clear hx hz HB b7 hnm hb hs
        go_wp2_with fail
        refine (C.out _).mono ?_
        rintro e w' ⟨rfl, rfl⟩
        go_wp2_with fail
        go_roundw
        case rel => exact ⟨k + 1, s2, rfl, by go_num, by omega, LT.out, N, B7⟩
        case measure => simp [intOf]; omega
      | false =>
        have N := Lib.hid (freF_no hz.out hx rfl)
        clear hx hz HB b7 hnm hb
        go_wp2_with fail
        go_roundw
        case rel => exact ⟨k + 1, s, rfl, by go_num, by omega, hs, N, B7⟩
        case measure => simp [intOf]; omega
    · have R := Lib.hid (freF_done hz.out (by omega))
      have d : decide (k < l.length) = false := by rw [decide_eq_false_iff_not]; exact hlt
      clear hz hlt
      go_wp2_with fail
      go_ret
      exact ⟨ret_uw (by rw [← HR.out, R.out]), HB.out⟩
set_option maxRecDepth 100000 in
set_option maxHeartbeats 4000000 in
theorem kfind_any (v : Value) (l : List St) (hl : l.length ≤ 1099511627776) (id : List UInt8) (t : ByteArray) (ht : str id = t) (w : World) (h : LstS w v l) : Calls Try.prog 14 #[v, .string t] w fun e w' => e = .returned (.tuple #[.int .i64 (max (fndT l id) 0), .bool (decide (0 ≤ fndT l id))]) ∧ Below w.heap.size w w' := by
  have H := Lib.hid h
  have HT := Lib.hid ht
  clear ht
  obtain ⟨A, c, rfl, -, -, -⟩ := h
  obtain ⟨r, hr⟩ : ∃ r, fndT l id = r := ⟨_, rfl⟩
  rw [hr]
  have HR := Lib.hid hr
  clear hr
  go_enter Try.func14, Try.ntmps14
  go_wp2_with fail
  go_loopw [10] (fun i wr => ∃ k : Nat, i = .int .i64 k ∧ k ≤ l.length ∧ Hid (fndT l id = fndF id k (l.drop k)) ∧ Hid (Below w.heap.size w wr)) (fun i _ => l.length - (intOf i).toNat)
  case atStart => exact ⟨0, rfl, Nat.zero_le _, Lib.hid rfl, Lib.hid (Below.refl _ _)⟩
  case round =>
    obtain ⟨k, rfl, hk, hz, HB⟩ := hrel
    by_cases hlt : k < l.length
    · obtain ⟨⟨ix, z, f, ch⟩, hx⟩ := at_lt hlt
      obtain ⟨nm, hnm⟩ : ∃ nm, str ix = nm := ⟨_, rfl⟩
      obtain ⟨b, o, rfl, hb, r0, r1, r2, r3⟩ := four_at (H.out.below HB.out) hx hnm
      have gk : (k : Int) < (l.length : Int) := by omega
      obtain ⟨w7, hw7⟩ : ∃ W, wr.alloc (.cells #[.string nm, .int .i64 z, .bool f, .int .i64 ch] 43 (0, 0)) = W := ⟨_, rfl⟩
      obtain ⟨b7, p0, p1, p2, p3, -⟩ := box_st hw7
      have B7 : Hid (Below w.heap.size w w7) := HB.out.trans (b7.mono HB.out.size)
      by_cases he : ix = id
      · have g := bytes_eq (a := nm) (b := t) (by rw [← hnm, ← HT.out, he])
        have R : Hid (r = (k : Int)) := by
          show _ = _
          rw [← HR.out, hz.out, fndF_hit hx he]
        clear hx hz HB b7 hnm hb he hlt HR HT
        go_wp2_with fail
        go_ret2
        exact ⟨ret_fnd (by rw [R.out, Int.max_eq_left (by omega)]) (by rw [R.out, decide_eq_true (by omega)]), B7.out⟩
      · have g := bytes_ne (a := nm) (b := t) (str_ne hnm HT.out he)
        have N : Hid (fndT l id = fndF id (k + 1) (l.drop (k + 1))) := by
          show _ = _
          rw [hz.out, fndF_miss hx he]
        clear hx hz HB b7 hnm hb he
        go_wp2_with fail
        go_roundw
        case rel => exact ⟨k + 1, by go_num, by omega, N, B7⟩
        case measure => simp [intOf]; omega
    · have R : Hid (r = -1) := by
        show _ = _
        rw [← HR.out, hz.out, fndF_end (by omega)]
      have d : decide (k < l.length) = false := by rw [decide_eq_false_iff_not]; exact hlt
      clear hz hlt HR HT
      go_wp2_with fail
      go_ret2
      exact ⟨ret_fnd (by rw [R.out]; rfl) (by rw [R.out]; rfl), HB.out⟩
set_option maxRecDepth 100000 in
set_option maxHeartbeats 4000000 in
theorem kin_any (v : Value) (l : List St) (hl : l.length ≤ 1000000) (q : Int) (w : World) (h : LstS w v l) : Calls Try.prog 19 #[v, .int .i64 q] w fun e w' => ∃ u, e = .returned u ∧ OwnI w' w.heap.size u (inT l q) ∧ Below w.heap.size w w' := by
  have H := Lib.hid h
  obtain ⟨A, c, rfl, -, -, -⟩ := h
  go_enter Try.func19, Try.ntmps19
  go_wp2_with fail
  go_loopw [5, 10] (fun u i wr => ∃ k : Nat, i = .int .i64 k ∧ k ≤ l.length ∧ Hid (OwnI wr w.heap.size u (inT (l.take k) q)) ∧ Hid (Below w.heap.size w wr)) (fun _ i _ => l.length - (intOf i).toNat)
  case atStart => exact ⟨0, rfl, Nat.zero_le _, Lib.hid (OwnI.nil _ _), Lib.hid (Below.refl _ _)⟩
  case round =>
    obtain ⟨k, rfl, hk, HO, HB⟩ := hrel
    by_cases hlt : k < l.length
    · obtain ⟨⟨ix, z, f, ch⟩, hx⟩ := at_lt hlt
      obtain ⟨nm, hnm⟩ : ∃ nm, str ix = nm := ⟨_, rfl⟩
      obtain ⟨b, o, rfl, hb, r0, r1, r2, r3⟩ := four_at (H.out.below HB.out) hx hnm
      have gk : (k : Int) < (l.length : Int) := by omega
      obtain ⟨w7, hw7⟩ : ∃ W, wr.alloc (.cells #[.string nm, .int .i64 z, .bool f, .int .i64 ch] 43 (0, 0)) = W := ⟨_, rfl⟩
      obtain ⟨b7, p0, p1, p2, p3, -⟩ := box_st hw7
      have B7 : Hid (Below w.heap.size w w7) := HB.out.trans (b7.mono HB.out.size)
      have O7 := Lib.hid (HO.out.below b7)
      by_cases he : z = q
      · have g := beq_true he
        have N := Lib.hid (inT_hit hx he)
        have hlen : (inT (l.take k) q).length ≤ 1000000 := by
          have := inT_le (l.take k) q
          rw [List.length_take] at this
          omega
        have hz := B7.out.size
        clear hx HO HB b7 hnm hb he
        go_wp2_with (at_builtin; refine app_int _ rfl _ _ rfl w.heap.size _ (inT (l.take k) q) (k : Int) rfl (OwnI.below O7.out ((Below.refl _ _).alloc (Nat.le_refl _) _)) w7.heap.size _ (heap_alloc_new _ _) rfl rfl (by simp; omega) (by omega) ?_
                     intro v1 w1 own1 b1
                     have O1 := Lib.hid own1
                     have B1 : Hid (Below w.heap.size w w1) := (B7.out.alloc hz _).trans b1
                     clear own1 b1)
        go_roundw
        case rel => exact ⟨k + 1, by go_num, by omega, by rw [N.out]; exact O1, B1⟩
        case measure => simp [intOf]; omega
      · have g := beq_false he
        have N := Lib.hid (inT_miss hx he)
        clear hx HO HB b7 hnm hb he
        go_wp2_with fail
        go_roundw
        case rel => exact ⟨k + 1, by go_num, by omega, by rw [N.out]; exact O7, B7⟩
        case measure => simp [intOf]; omega
    · have E : Hid (OwnI wr w.heap.size u5 (inT l q)) := by
        have := HO.out
        rw [List.take_of_length_le (by omega)] at this
        exact this
      have d : decide (k < l.length) = false := by rw [decide_eq_false_iff_not]; exact hlt
      clear hlt HO
      go_wp2_with fail
      go_ret
      exact ⟨_, rfl, E.out, HB.out⟩
end Go.Proofs.Ytgjohpbhdgmifaa
