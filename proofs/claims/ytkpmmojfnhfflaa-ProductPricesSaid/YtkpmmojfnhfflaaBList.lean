/-
  The reference's List and Min of a set of small ints: what each call answers; nothing that existed before the call has changed behind it. Condition: words below 2^64.
-/
import Derived.Test.YtkpmmojfnhfflaaBRef
namespace Go.Proofs.Ytkpmmojfnhfflaa
open Go.RowKit

theorem OwnI.alloc {w : World} {base : Nat} {v : Value} {l : List Int} (h : OwnI w base v l) (o : Obj) : OwnI (w.alloc o) base v l := World.ownsRow.alloc h o
set_option maxHeartbeats 2000000 in
theorem rlist_any (s : Nat) (hs : W64 s) (w : World) : Calls Try.prog 35 #[.int .u64 (s : Int)] w fun e w' => ∃ v, e = .returned v ∧ LstI w' v (intN (elems s)) ∧ Below w.heap.size w w' := by
  have HS := Lib.hid hs
  clear hs
  go_enter Try.func35, Try.ntmps35
  go_wp2_with fail
  go_loopw [3, 4] (fun v i wr => ∃ k : Nat, i = .int .i64 k ∧ k ≤ 64 ∧ Hid (OwnI wr w.heap.size v (intN (elemsTo s k))) ∧ Hid (Below w.heap.size w wr)) (fun _ i _ => 64 - (intOf i).toNat)
  case atStart => exact ⟨0, rfl, Nat.zero_le _, Lib.hid (OwnI.nil _ _), Lib.hid (Below.refl _ _)⟩
  case round =>
    obtain ⟨k, rfl, hk, ho, hb⟩ := hrel
    by_cases hlt : k < 64
    · have gk : (k : Int) < 64 := by omega
      have H := Lib.hid (fun W => rhas_any s HS.out (k : Int) W)
      rw [has_nat s hlt] at H
      cases ht : s.testBit k with
      | true =>
        rw [ht] at H
        have HZ := hb.out.size
        have LE := Lib.hid (to_len s k)
        have E := Lib.hid (to_yes ht)
        clear ht
        go_wp2_with fail
        refine (H.out _).mono ?_
        rintro e w' ⟨rfl, rfl⟩
        go_wp2_with (at_builtin; refine app_int _ rfl (.tmp 12) (.tmp 14) rfl w.heap.size _ (intN (elemsTo s k)) k rfl (OwnI.alloc ho.out _) wr.heap.size _ (heap_alloc_new _ _) rfl rfl (by simp; omega) (by rw [intN_len]; have := LE.out; omega) ?_; intro v1 w1 own1 b1)
        go_roundw
        case rel => exact ⟨k + 1, by go_num, by omega, Lib.hid (by rw [E.out]; exact own1), Lib.hid ((hb.out.trans ((Below.refl _ wr).alloc HZ _)).trans b1)⟩
        case measure => simp [intOf]; omega
      | false =>
        rw [ht] at H
        have E := Lib.hid (to_no ht)
        clear ht
        go_wp2_with fail
        refine (H.out _).mono ?_
        rintro e w' ⟨rfl, rfl⟩
        go_wp2_with fail
        go_roundw
        case rel => exact ⟨k + 1, by go_num, by omega, Lib.hid (by rw [E.out]; exact ho.out), hb⟩
        case measure => simp [intOf]; omega
    · have d : decide ((k : Int) < 64) = false := decide_eq_false (by omega)
      have hk64 : k = 64 := by omega
      subst hk64
      go_wp2_with fail
      go_ret
      exact ⟨_, rfl, ho.out.lst, hb.out⟩
end Go.Proofs.Ytkpmmojfnhfflaa
