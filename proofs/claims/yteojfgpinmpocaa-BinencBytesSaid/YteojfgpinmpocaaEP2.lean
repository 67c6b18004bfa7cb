/-
  Numbers and integers put: the reference's PutUint, PutInt of package binenc and of the reference, fold: what each call answers; nothing that existed before has changed. Condition: the integers are ints.
-/
import Derived.Test.YteojfgpinmpocaaEP
namespace Go.Proofs.Yteojfgpinmpocaa
open Go.RowKit

set_option maxRecDepth 100000 in
set_option maxHeartbeats 1000000 in
theorem rpuint_any (n : Nat) (hn : n < 18446744073709551616) (w : World) : GivesB 14 #[.int .u64 (n : Int)] w (putU n) := by
  obtain ⟨P, hP⟩ : ∃ P, putU n = P := ⟨_, rfl⟩
  have hlen := (putU_len n).2
  rw [hP] at hlen ⊢
  have HP := Lib.hid (show [] ++ putF 9 n = P from hP)
  have HN := Lib.hid (show n < 2 * 128 ^ 9 from hn)
  have HL := Lib.hid hlen
  clear hP hn hlen
  go_enter Try.func14, Try.ntmps14
  go_wp2_with fail
  go_loopw [0, 3, 4] (fun u v iv wr => ∃ (n k i : Nat) (acc : List UInt8), u = .int .u64 (n : Int) ∧ iv = .int .i64 (i : Int) ∧ k + i = 9 ∧ n < 18446744073709551616 ∧ Hid (acc ++ putF k n = P) ∧ Hid (n < 2 * 128 ^ k) ∧ OwnB wr w.heap.size v acc ∧ Below w.heap.size w wr) (fun u _ _ _ => (intOf u).toNat)
  case atStart => exact ⟨n, 9, 0, [], rfl, rfl, rfl, HN.out, HP, HN, OwnB.nil _ _, Below.refl _ _⟩
  case round =>
    clear HP HN
    obtain ⟨n, k, i, acc, rfl, rfl, hki, hn, hp, hk, own, hb⟩ := hrel
    have HO := Lib.hid own
    have HB := Lib.hid hb
    have hz := hb.size
    have LA := Lib.hid (show acc.length ≤ 10 by have := HL.out; rw [← hp.out, List.length_append] at this; omega)
    have hi : (i : Int) < 10 := by omega
    clear own hb
    by_cases hge : 128 ≤ n
    · obtain ⟨j, x, rfl, hj, hx, hput⟩ := put_more hge hk.out
      have g : (127 : Int) < (n : Int) := by omega
      have N : Hid ((acc ++ [x]) ++ putF j (n / 128) = P) := by show _ = _; rw [← hp.out, hput, List.append_assoc]; rfl
      have HX := Lib.hid hx
      have HJ := Lib.hid hj
      clear hx hj hput hp hk
      go_wp2_with (at_builtin; refine app_bytes _ rfl (.tmp 13) (.tmp 18) rfl w.heap.size _ acc [x] rfl (World.ownsRow.alloc HO.out _) wr.heap.size _ (heap_alloc_new _ _) (one_cell HX.out) rfl (by simp; omega) (by have := LA.out; simp; omega) ?_; intro v1 w1 own1 b1; have O1 := Lib.hid own1; have B1 := Lib.hid ((HB.out.alloc hz _).trans b1); clear own1 b1)
      go_roundw
      case rel => exact ⟨n / 128, j, i + 1, acc ++ [x], by go_num, by go_num, by omega, by omega, N, HJ, O1.out, B1.out⟩
      case measure => simp [intOf]; omega
    · have g : decide ((127 : Int) < (n : Int)) = false := decide_eq_false (by omega)
      obtain ⟨x, hx, hput⟩ := put_last (k := k) (n := n) (by omega)
      have R := Lib.hid (show acc ++ [x] = P by rw [← hp.out, hput])
      have HX := Lib.hid hx
      have hn2 : n < 128 := by omega
      clear hx hput hp hk hge
      go_wp2_with (at_builtin; refine app_bytes _ rfl (.tmp 22) (.tmp 25) rfl w.heap.size _ acc [x] rfl (World.ownsRow.alloc HO.out _) wr.heap.size _ (heap_alloc_new _ _) (one_cell HX.out) rfl (by simp; omega) (by have := LA.out; simp; omega) ?_; intro v1 w1 own1 b1; have O1 := Lib.hid own1; have B1 := Lib.hid ((HB.out.alloc hz _).trans b1); clear own1 b1)
      go_ret
      refine ⟨_, rfl, ?_, B1.out⟩
      rw [← R.out]
      exact O1.out
theorem puint_of {z : Int} {n : Nat} (h : z = (n : Int)) (hn : n < 18446744073709551616) (w : World) : GivesB 13 #[.int .u64 z] w (putU n) := by rw [h]; exact puint_any n hn w
theorem rpuint_of {z : Int} {n : Nat} (h : z = (n : Int)) (hn : n < 18446744073709551616) (w : World) : GivesB 14 #[.int .u64 z] w (putU n) := by rw [h]; exact rpuint_any n hn w
theorem zig_pos {n : Int} (h0 : 0 ≤ n) : (zig n : Int) = 2 * n := by unfold zig; rw [if_pos h0]; omega
theorem zig_neg {n : Int} (h0 : n < 0) : (zig n : Int) = -2 * n - 1 := by unfold zig; rw [if_neg (by omega)]; omega
set_option maxRecDepth 100000 in
theorem pint_any (n : Int) (hn : I64 n) (w : World) : GivesB 15 #[.int .i64 n] w (putI n) := by
  have hz := zig_lt hn
  obtain ⟨h1, h2⟩ := hn
  unfold putI
  by_cases h0 : 0 ≤ n
  · have e := zig_pos h0
    have g : decide (n < 0) = false := decide_eq_false (by omega)
    generalize zig n = z at hz e ⊢
    have HE := Lib.hid e
    have HZ := Lib.hid hz
    clear e hz
    go_enter Try.func15, Try.ntmps15
    go_wp2_with fail
    refine (puint_of (n := z) ?_ HZ.out _).mono ?_
    · have := HE.out
      omega
    rintro e w1 ⟨u, rfl, o1, b1⟩
    go_wp2_with fail
    go_ret
    exact ⟨_, rfl, o1, b1⟩
  · have e := zig_neg (n := n) (by omega)
    have g : n < 0 := by omega
    generalize zig n = z at hz e ⊢
    have HE := Lib.hid e
    have HZ := Lib.hid hz
    clear e hz h0
    go_enter Try.func15, Try.ntmps15
    go_wp2_with fail
    refine (puint_of (n := z) ?_ HZ.out _).mono ?_
    · have := HE.out
      simp only [IntKind.wrap_u64]
      omega
    rintro e w1 ⟨u, rfl, o1, b1⟩
    go_wp2_with fail
    go_ret
    exact ⟨_, rfl, o1, b1⟩
set_option maxRecDepth 100000 in
theorem fold_any (n : Int) (hn : I64 n) (w : World) : Calls Try.prog 37 #[.int .i64 n] w fun e w' => e = .returned (.int .u64 (zig n : Int)) ∧ w = w' := by
  obtain ⟨h1, h2⟩ := hn
  by_cases h0 : 0 ≤ n
  · have HE := Lib.hid (zig_pos h0)
    go_enter Try.func37, Try.ntmps37
    go_wp2_with fail
    go_ret
    exact ⟨ret_int (by have := HE.out; omega), rfl⟩
  · have HE := Lib.hid (zig_neg (n := n) (by omega))
    have g : decide ((0 : Int) ≤ n) = false := decide_eq_false h0
    clear h0
    go_enter Try.func37, Try.ntmps37
    go_wp2_with fail
    go_ret
    exact ⟨ret_int (by have := HE.out; simp only [wrap64, IntKind.wrap_u64]; omega), rfl⟩
theorem rpint_any (n : Int) (hn : I64 n) (w : World) : GivesB 16 #[.int .i64 n] w (putI n) := by
  have F := Lib.hid (fold_any n hn w)
  have M := Lib.hid (rpuint_any (zig n) (zig_lt hn) w)
  unfold putI
  generalize zig n = z at F M ⊢
  clear hn
  go_enter Try.func16, Try.ntmps16
  go_wp2_with fail
  refine (F.out).mono ?_
  rintro e w' ⟨rfl, rfl⟩
  go_wp2_with fail
  refine M.out.mono ?_
  rintro e w1 ⟨u, rfl, o1, b1⟩
  go_wp2_with fail
  go_ret
  exact ⟨_, rfl, o1, b1⟩
end Go.Proofs.Yteojfgpinmpocaa
