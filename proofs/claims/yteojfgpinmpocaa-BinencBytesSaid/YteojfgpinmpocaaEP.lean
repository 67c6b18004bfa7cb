/-
  Numbers and integers put: PutUint and PutInt of package binenc and of the reference: what each call answers; nothing that existed before has changed. Condition: none beyond each theorem's own hypotheses.
-/
import Derived.Test.YteojfgpinmpocaaERU
import Derived.Test.YteojfgpinmpocaaCpy
namespace Go.Proofs.Yteojfgpinmpocaa
open Go.RowKit

theorem one_cell {z : Int} {x : UInt8} (h : z = (x.toNat : Int)) : (#[Value.int .u8 z] : Array Value).toList = bts [x] := by rw [h]; rfl
/-- The first byte of more, and the last one. -/
theorem put_more {k n : Nat} (h : 128 ≤ n) (hk : n < 2 * 128 ^ k) : ∃ j x, k = j + 1 ∧ n / 128 < 2 * 128 ^ j ∧ (128 : Int) + (n : Int) % 128 = ((x : UInt8).toNat : Int) ∧ putF k n = x :: putF j (n / 128) := by
  cases k with
  | zero => simp at hk; omega
  | succ j =>
    refine ⟨j, UInt8.ofNat (128 + n % 128), rfl, by rw [Nat.pow_succ] at hk; omega, ?_, putF_big h⟩
    rw [u8_small (by omega)]
    omega
theorem put_last {k n : Nat} (h : n < 128) : ∃ x, (n : Int) = ((x : UInt8).toNat : Int) ∧ putF k n = [x] := ⟨UInt8.ofNat n, by rw [u8_small (by omega)], putF_small h⟩
set_option maxRecDepth 100000 in
set_option maxHeartbeats 1000000 in
theorem puint_any (n : Nat) (hn : n < 18446744073709551616) (w : World) : GivesB 13 #[.int .u64 (n : Int)] w (putU n) := by
  obtain ⟨P, hP⟩ : ∃ P, putU n = P := ⟨_, rfl⟩
  have hlen := (putU_len n).2
  rw [hP] at hlen ⊢
  have HP := Lib.hid (show [] ++ putF 9 n = P from hP)
  have HN := Lib.hid (show n < 2 * 128 ^ 9 from hn)
  have HL := Lib.hid hlen
  clear hP hn hlen
  go_enter Try.func13, Try.ntmps13
  go_wp2_with fail
  go_loopw [0, 3] (fun u v wr => ∃ (n k : Nat) (acc : List UInt8), u = .int .u64 (n : Int) ∧ n < 18446744073709551616 ∧ Hid (acc ++ putF k n = P) ∧ Hid (n < 2 * 128 ^ k) ∧ OwnB wr w.heap.size v acc ∧ Below w.heap.size w wr) (fun u _ _ => (intOf u).toNat)
  case atStart => exact ⟨n, 9, [], rfl, HN.out, HP, HN, OwnB.nil _ _, Below.refl _ _⟩
  case round =>
    clear HP HN
    obtain ⟨n, k, acc, rfl, hn, hp, hk, own, hb⟩ := hrel
    have HO := Lib.hid own
    have HB := Lib.hid hb
    have hz := hb.size
    have LA := Lib.hid (show acc.length ≤ 10 by have := HL.out; rw [← hp.out, List.length_append] at this; omega)
    clear own hb
    by_cases hge : 128 ≤ n
    · obtain ⟨j, x, rfl, hj, hx, hput⟩ := put_more hge hk.out
      have g : (128 : Int) ≤ (n : Int) := by omega
      have N : Hid ((acc ++ [x]) ++ putF j (n / 128) = P) := by show _ = _; rw [← hp.out, hput, List.append_assoc]; rfl
      have HX := Lib.hid hx
      have HJ := Lib.hid hj
      clear hx hj hput hp hk
      go_wp2_with (at_builtin; refine app_bytes _ rfl (.tmp 6) (.tmp 11) rfl w.heap.size _ acc [x] rfl (World.ownsRow.alloc HO.out _) wr.heap.size _ (heap_alloc_new _ _) (one_cell HX.out) rfl (by simp; omega) (by have := LA.out; simp; omega) ?_; intro v1 w1 own1 b1; have O1 := Lib.hid own1; have B1 := Lib.hid ((HB.out.alloc hz _).trans b1); clear own1 b1)
      go_roundw
      case rel => exact ⟨n / 128, j, acc ++ [x], by go_num, by omega, N, HJ, O1.out, B1.out⟩
      case measure => simp [intOf]; omega
    · have g : decide ((128 : Int) ≤ (n : Int)) = false := decide_eq_false (by omega)
      obtain ⟨x, hx, hput⟩ := put_last (k := k) (n := n) (by omega)
      have R := Lib.hid (show acc ++ [x] = P by rw [← hp.out, hput])
      have HX := Lib.hid hx
      have hn2 : n < 128 := by omega
      clear hx hput hp hk hge
      go_wp2_with (at_builtin; refine app_bytes _ rfl (.tmp 15) (.tmp 18) rfl w.heap.size _ acc [x] rfl (World.ownsRow.alloc HO.out _) wr.heap.size _ (heap_alloc_new _ _) (one_cell HX.out) rfl (by simp; omega) (by have := LA.out; simp; omega) ?_; intro v1 w1 own1 b1; have O1 := Lib.hid own1; have B1 := Lib.hid ((HB.out.alloc hz _).trans b1); clear own1 b1)
      go_ret
      refine ⟨_, rfl, ?_, B1.out⟩
      rw [← R.out]
      exact O1.out
end Go.Proofs.Yteojfgpinmpocaa
