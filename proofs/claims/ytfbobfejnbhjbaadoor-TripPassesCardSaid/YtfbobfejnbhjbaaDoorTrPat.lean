/-
  The code's Pattern, events, patternText and both SamePattern of trips: what each call answers; nothing that existed before the call has changed behind it. Condition: lists of fewer than 2^63 calls, stops of 64 bits.
-/
import Derived.Test.YtfbobfejnbhjbaaDoorTrSt
namespace Go.Proofs.YtfbobfejnbhjbaaDoor
open Go.RowKit

set_option maxRecDepth 100000 in
set_option maxHeartbeats 4000000 in
theorem kpat_any (s : ByteArray) (r c : Int) (f : Bool) (v : Value) (l : List Cl) (hl : l.length ≤ 1099511627776) (w : World) (h : LstC w v l) :
    Calls Tryd.prog 19 #[.agg #[.string s, .int .i64 r, .int .i64 c, .bool f, v]] w fun e w' => ∃ u, e = .returned u ∧ OwnI w' w.heap.size u (stpC l) ∧ Below w.heap.size w w' := by
  obtain ⟨w7, hw7⟩ : ∃ W, w.alloc (.cells #[.string s, .int .i64 r, .int .i64 c, .bool f, v] 39 (0, 0)) = W := ⟨_, rfl⟩
  obtain ⟨b7, -, -, -, -, p4, s7⟩ := box_tp hw7
  have B7 := Lib.hid b7
  have H := Lib.hid h
  obtain ⟨A, n, rfl, -, -, -⟩ := h
  clear b7
  go_enter Tryd.func19, Tryd.ntmps19
  go_wp2_with fail
  go_loopw [3, 9] (fun o i wr => ∃ k : Nat, i = .int .i64 k ∧ k ≤ l.length ∧ Hid (OwnI wr w.heap.size o (stpC (l.take k))) ∧ Hid (Below w.heap.size w wr)) (fun _ i _ => l.length - (intOf i).toNat)
  case atStart => exact ⟨0, rfl, Nat.zero_le _, Lib.hid (OwnI.nil _ _), B7⟩
  case round =>
    clear p4 hw7
    obtain ⟨k, rfl, hk, HO, HB⟩ := hrel
    by_cases hlt : k < l.length
    · obtain ⟨⟨s, a, d, o, u⟩, hx⟩ := at_lt hlt
      obtain ⟨b, f, rfl, hb, r0, r1, r2, r3, r4⟩ := five_at (H.out.below HB.out) hx
      have gk : (k : Int) < (l.length : Int) := by omega
      obtain ⟨w8, hw8⟩ : ∃ W, wr.alloc (.cells #[.int .i64 s, .int .i64 a, .int .i64 d, .bool o, .bool u] 44 (0, 0)) = W := ⟨_, rfl⟩
      obtain ⟨b8, q0, -, -, -, -, s8⟩ := box_cc hw8
      have B8 : Hid (Below w.heap.size w w8) := HB.out.trans (b8.mono HB.out.size)
      have O8 := Lib.hid (HO.out.below b8)
      have T := Lib.hid (stp_snoc hx)
      have hn : (stpC (l.take k)).length ≤ 1099511627775 := by rw [stp_len, List.length_take]; omega
      have z8 := B8.out.size
      clear b8 hb hx HO HB
      go_wp2_with (at_builtin; refine app_int _ rfl _ _ rfl w.heap.size _ (stpC (l.take k)) s rfl (OwnI.below O8.out ((Below.refl _ _).alloc (Nat.le_refl _) _)) _ _ (heap_alloc_new _ _) rfl rfl (by simp; omega) (by omega) ?_; intro v2 w2 o2 b2; refine Hid.out ?_)
      have O2 : Hid (OwnI w2 w.heap.size v2 (stpC (l.take (k + 1)))) := by
        show OwnI _ _ _ _
        rw [T.out]
        exact o2
      have B2 : Hid (Below w.heap.size w w2) := (B8.out.alloc z8 _).trans b2
      clear o2 b2 O8 B8
      refine Lib.hid ?_
      go_wp2_with fail
      go_roundw
      case rel => exact ⟨k + 1, by go_num, by omega, O2, B2⟩
      case measure => simp [intOf]; omega
    · have E : Hid (OwnI wr w.heap.size u3 (stpC l)) := by
        have := HO.out
        rw [List.take_of_length_le (by omega)] at this
        exact this
      have d : decide (k < l.length) = false := by rw [decide_eq_false_iff_not]; exact hlt
      clear hlt HO
      go_wp2_with fail
      go_ret
      exact ⟨_, rfl, E.out, HB.out⟩
end Go.Proofs.YtfbobfejnbhjbaaDoor
