/-
  At of package call and of its reference: what each call hands back; nothing that existed before the call has changed behind it. Condition: lists of at most 1000000 calls.
-/
import Derived.Test.YtgdlibmgmokfaaaWSt
namespace Go.Proofs.Ytgdlibmgmokfaaa
open Go.RowKit

set_option maxRecDepth 100000 in
set_option maxHeartbeats 4000000 in
theorem kat_any (v : Value) (l : List Cl) (hl : l.length ≤ 1000000) (st : Int) (w : World) (h : LstC w v l) :
    Calls Try.prog 22 #[v, .int .i64 st] w fun e w' => ∃ u, e = .returned u ∧ OwnI w' w.heap.size u (ixs (atC st) l) ∧ Below w.heap.size w w' := by
  have H := Lib.hid h
  obtain ⟨A, c, rfl, -, -, -⟩ := h
  go_enter Try.func22, Try.ntmps22
  go_wp2_with fail
  go_loopw [10, 5] (fun i' u wr => ∃ k : Nat, i' = .int .i64 k ∧ k ≤ l.length ∧ Hid (OwnI wr w.heap.size u (ixs (atC st) (l.take k))) ∧ Hid (Below w.heap.size w wr)) (fun i' _ _ => l.length - (intOf i').toNat)
  case atStart => exact ⟨0, rfl, Nat.zero_le _, Lib.hid (OwnI.nil _ _), Lib.hid (Below.refl _ _)⟩
  case round =>
    obtain ⟨k, rfl, hk, HO, HB⟩ := hrel
    have hb := HB.out.size
    by_cases hlt : k < l.length
    · obtain ⟨⟨s, a, d, o, u⟩, hx⟩ := at_lt hlt
      obtain ⟨b, f, rfl, hbl, m0, m1, m2, m3, m4⟩ := five_at (H.out.below HB.out) hx
      have gk : (k : Int) < (l.length : Int) := by omega
      obtain ⟨w7, hw7⟩ : ∃ W, wr.alloc (.cells #[.int .i64 s, .int .i64 a, .int .i64 d, .bool o, .bool u] 47 (0, 0)) = W := ⟨_, rfl⟩
      obtain ⟨b7, t0, t1, t2, t3, t4, z7⟩ := box_cc hw7
      have B7 := Lib.hid (HB.out.trans (b7.mono HB.out.size))
      have O7 := Lib.hid (HO.out.below b7)
      have hz7 : w.heap.size ≤ w7.heap.size := B7.out.size
      have hlen : (ixs (atC st) (l.take k)).length ≤ 1000000 := Nat.le_trans (ix_le _ _) (by rw [List.length_take]; omega)
      by_cases e : s = st
      · have eq := beq_true e
        have N := Lib.hid (ix_hit hx (atC_yes (x := (s, a, d, o, u)) e))
        clear hx hbl HB HO b7 e
        go_wp2_with (at_builtin; refine app_int _ rfl (.tmp 19) (.tmp 21) rfl w.heap.size _ (ixs (atC st) (l.take k)) (k : Int) rfl (OwnI.below O7.out ((Below.refl _ _).alloc (Nat.le_refl _) _)) w7.heap.size _ (heap_alloc_new _ _) rfl rfl (by simp; omega) (by omega) ?_; intro v1 w8 own8 b8; have B8 := Lib.hid ((B7.out.alloc hz7 _).trans b8); have O8 := Lib.hid own8; clear own8 b8)
        rw [← N.out] at O8
        go_wp2_with fail
        go_roundw
        case rel => exact ⟨k + 1, by go_num, by omega, O8, B8⟩
        case measure => simp [intOf]; omega
      · have eq := beq_false e
        have N := Lib.hid (ix_miss hx (atC_no (x := (s, a, d, o, u)) e))
        rw [← N.out] at O7
        clear hx hbl HB HO b7 e
        go_wp2_with fail
        go_roundw
        case rel => exact ⟨k + 1, by go_num, by omega, O7, B7⟩
        case measure => simp [intOf]; omega
    · have dk : decide (k < l.length) = false := by rw [decide_eq_false_iff_not]; exact hlt
      have O := Lib.hid HO.out
      rw [List.take_of_length_le (by omega)] at O
      clear hlt HO
      go_wp2_with fail
      go_ret
      exact ⟨_, rfl, O.out, HB.out⟩
set_option maxRecDepth 100000 in
set_option maxHeartbeats 4000000 in
theorem rat_any (v : Value) (l : List Cl) (hl : l.length ≤ 1000000) (st : Int) (w : World) (h : LstC w v l) :
    Calls Try.prog 23 #[v, .int .i64 st] w fun e w' => ∃ u, e = .returned u ∧ OwnI w' w.heap.size u (ixs (atC st) l) ∧ Below w.heap.size w w' := by
  have H := Lib.hid h
  obtain ⟨A, c, rfl, -, -, -⟩ := h
  go_enter Try.func23, Try.ntmps23
  go_wp2_with fail
  go_loopw [6, 5] (fun i' u wr => ∃ k : Nat, i' = .int .i64 k ∧ k ≤ l.length ∧ Hid (OwnI wr w.heap.size u (ixs (atC st) (l.take k))) ∧ Hid (Below w.heap.size w wr)) (fun i' _ _ => l.length - (intOf i').toNat)
  case atStart => exact ⟨0, rfl, Nat.zero_le _, Lib.hid (OwnI.nil _ _), Lib.hid (Below.refl _ _)⟩
  case round =>
    obtain ⟨k, rfl, hk, HO, HB⟩ := hrel
    have hb := HB.out.size
    by_cases hlt : k < l.length
    · obtain ⟨⟨s, a, d, o, u⟩, hx⟩ := at_lt hlt
      obtain ⟨b, f, rfl, hbl, m0, m1, m2, m3, m4⟩ := five_at (H.out.below HB.out) hx
      have gk : (k : Int) < (l.length : Int) := by omega
      have hlen : (ixs (atC st) (l.take k)).length ≤ 1000000 := Nat.le_trans (ix_le _ _) (by rw [List.length_take]; omega)
      by_cases e : s = st
      · have eq := beq_true e
        have N := Lib.hid (ix_hit hx (atC_yes (x := (s, a, d, o, u)) e))
        clear hx hbl e
        go_wp2_with (at_builtin; refine app_int _ rfl (.tmp 20) (.tmp 22) rfl w.heap.size _ (ixs (atC st) (l.take k)) (k : Int) rfl (OwnI.below HO.out ((Below.refl _ _).alloc (Nat.le_refl _) _)) wr.heap.size _ (heap_alloc_new _ _) rfl rfl (by simp; omega) (by omega) ?_; intro v1 w8 own8 b8; have B8 := Lib.hid ((HB.out.alloc hb _).trans b8); have O8 := Lib.hid own8; clear own8 b8)
        rw [← N.out] at O8
        clear HO HB
        go_wp2_with fail
        go_roundw
        case rel => exact ⟨k + 1, by go_num, by omega, O8, B8⟩
        case measure => simp [intOf]; omega
      · have eq := beq_false e
        have N := Lib.hid (ix_miss hx (atC_no (x := (s, a, d, o, u)) e))
        rw [← N.out] at HO
        clear hx hbl e
        go_wp2_with fail
        go_roundw
        case rel => exact ⟨k + 1, by go_num, by omega, HO, HB⟩
        case measure => simp [intOf]; omega
    · have dk : decide (k < l.length) = false := by rw [decide_eq_false_iff_not]; exact hlt
      have O := Lib.hid HO.out
      rw [List.take_of_length_le (by omega)] at O
      clear hlt HO
      go_wp2_with fail
      go_ret
      exact ⟨_, rfl, O.out, HB.out⟩
end Go.Proofs.Ytgdlibmgmokfaaa
