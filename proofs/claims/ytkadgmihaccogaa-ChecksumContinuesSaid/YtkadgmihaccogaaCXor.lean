/-
  The exclusive or of three byte strings (the reference's Xor): what the call answers; nothing that existed before has changed. Condition: at most 2^20 bytes.
-/
import Derived.Test.YtkadgmihaccogaaCFlip
namespace Go.Proofs.Ytkadgmihaccogaa
open Go.RowKit

theorem xorL_take {a b c : List UInt8} {k : Nat} {x y z : UInt8} (h1 : a[k]? = some x) (h2 : b[k]? = some y) (h3 : c[k]? = some z) : (xorL a b c).take (k + 1) = (xorL a b c).take k ++ [xor3 x y z] := take_at _ k _ (xorL_at a b c k x y z h1 h2 h3)
set_option maxHeartbeats 4000000 in
theorem xor_any (u v x : Value) (a b c : List UInt8) (ha : a.length ≤ 1048576) (hb : b.length = a.length) (hc : c.length = a.length) (w : World) (h1 : LstB w u a) (h2 : LstB w v b) (h3 : LstB w x c) : GivesB 22 #[u, v, x] w (xorL a b c) := by
  obtain ⟨A1, c1, rfl, -, -, hx1⟩ := h1
  obtain ⟨A2, c2, rfl, -, -, hx2⟩ := h2
  obtain ⟨A3, c3, rfl, -, -, hx3⟩ := h3
  rw [hb] at hx2 ⊢
  rw [hc] at hx3 ⊢
  have X1 := Lib.hid hx1
  have X2 := Lib.hid hx2
  have X3 := Lib.hid hx3
  have HB := Lib.hid hb
  have HC := Lib.hid hc
  have HL := Lib.hid (xorL_length a b c hb hc)
  clear hx1 hx2 hx3 hb hc
  go_enter Try.func22, Try.ntmps22
  go_wp2_with fail
  go_loopw [7, 8] (fun o i wr => ∃ k : Nat, i = .int .i64 (k : Int) ∧ k ≤ a.length ∧ Hid (OwnB wr w.heap.size o ((xorL a b c).take k)) ∧ Hid (Below w.heap.size w wr)) (fun _ i _ => a.length - (intOf i).toNat)
  case atStart => exact ⟨0, rfl, Nat.zero_le _, Lib.hid (OwnB.nil _ _), Lib.hid (Below.refl _ _)⟩
  case round =>
    obtain ⟨k, rfl, hk, HO, HW⟩ := hrel
    by_cases hlt : k < a.length
    · have gk : (k : Int) < (a.length : Int) := by omega
      obtain ⟨y1, e1⟩ := at_lt hlt
      obtain ⟨y2, e2⟩ := at_lt (l := b) (k := k) (by rw [HB.out]; exact hlt)
      obtain ⟨y3, e3⟩ := at_lt (l := c) (k := k) (by rw [HC.out]; exact hlt)
      obtain ⟨b1, o1, rfl, hb1, hc1⟩ := X1.out (by omega)
      obtain ⟨b2, o2, rfl, hb2, hc2⟩ := X2.out (by omega)
      obtain ⟨b3, o3, rfl, hb3, hc3⟩ := X3.out (by omega)
      have m1 : wr.cell? ⟨b1, o1 + k, none⟩ = some (.int .u8 y1.toNat) := (HW.out.cell (p := ⟨b1, o1 + k, none⟩) hb1).trans (hc1 k _ (bts_at a k y1 e1))
      have m2 : wr.cell? ⟨b2, o2 + k, none⟩ = some (.int .u8 y2.toNat) := (HW.out.cell (p := ⟨b2, o2 + k, none⟩) hb2).trans (hc2 k _ (bts_at b k y2 e2))
      have m3 : wr.cell? ⟨b3, o3 + k, none⟩ = some (.int .u8 y3.toNat) := (HW.out.cell (p := ⟨b3, o3 + k, none⟩) hb3).trans (hc3 k _ (bts_at c k y3 e3))
      have q1 := u8_xor_nat y1.toNat y2.toNat (byte_lt _) (byte_lt _)
      have q2 : bits .xor .u8 ((y1.toNat ^^^ y2.toNat : Nat) : Int) (y3.toNat : Int) = ((xor3 y1 y2 y3).toNat : Int) := by
        rw [u8_xor_nat _ _ (xor8_lt (byte_lt _) (byte_lt _)) (byte_lt _), xor3_nat]
      have E := Lib.hid (xorL_take e1 e2 e3)
      have hlen : ((xorL a b c).take k).length ≤ 1048576 := by rw [List.length_take]; omega
      have HLn := Lib.hid hlen
      have hz := HW.out.size
      generalize xor3 y1 y2 y3 = y at q2 E
      generalize y1.toNat ^^^ y2.toNat = t at q1 q2
      generalize y1.toNat = n1 at m1 q1
      generalize y2.toNat = n2 at m2 q1
      generalize y3.toNat = n3 at m3 q2
      clear e1 e2 e3 hb1 hb2 hb3 hc1 hc2 hc3 hlen
      go_wp2_with fail
      go_region_law (refine step_bytes _ rfl _ _ rfl w.heap.size _ _ [y] rfl (World.ownsRow.alloc HO.out _) wr.heap.size _ (heap_alloc_new _ _) rfl rfl (by simp; omega) (by have := HLn.out; simp at this ⊢; omega) ?_; intro v1 w1 own1 b1)
      all_goals
        go_wp2_with fail
        go_roundw
        case rel => exact ⟨k + 1, by go_num, by omega, Lib.hid (by rw [E.out]; exact own1), Lib.hid (((HW.out.drew).alloc hz _).trans b1)⟩
        case measure => simp [intOf]; omega
    · have d : decide (k < a.length) = false := decide_eq_false hlt
      have R := Lib.hid (show (xorL a b c).take k = xorL a b c from List.take_of_length_le (by rw [HL.out]; omega))
      clear hlt
      go_wp2_with fail
      go_ret
      exact ⟨_, rfl, by rw [← R.out]; exact HO.out, HW.out⟩
end Go.Proofs.Ytkadgmihaccogaa
