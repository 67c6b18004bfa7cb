/-
  Contains and Length: what each call answers. Condition: lists of at most 10000 spans (Length: whose ends are ints).
-/
import Derived.Test.YtmlmdggfcdakhaaVOps
import Derived.Test.YtmlmdggfcdakhaaVRef4
namespace Go.Proofs.Ytmlmdggfcdakhaa
open Go.RowKit

theorem hit_clo (s : Sp) (x : Int) (B : Nat) (w : World) (h : w.cell? ⟨B, 0, none⟩ = some (.int .i64 x)) : Calls Try.prog 29 #[.agg #[.int .i64 s.1, .int .i64 s.2], .pointer (some ⟨B, 0, none⟩)] w fun e w' => e = .returned (.bool (inS s x)) ∧ Below w.heap.size w w' := by
  obtain ⟨a, b⟩ := s
  have hB := World.block_lt_of_cell? _ _ h
  have y0 : (w.alloc (.cells #[.int .i64 a, .int .i64 b] 27 (0, 0))).cell? ⟨B, 0, none⟩ = some (.int .i64 x) := (((Below.refl w.heap.size w).alloc (Nat.le_refl _) _).cell (p := ⟨B, 0, none⟩) hB).trans h
  by_cases h1 : a ≤ x
  · by_cases h2 : x < b
    · have R : Hid (inS (a, b) x = true) := (inS_iff (a, b) x).2 ⟨h1, h2⟩
      go_enter Try.func29, Try.ntmps29
      go_wp2_with fail
      go_ret
      exact ⟨ret_bool R.out.symm, (Below.refl _ _).alloc (Nat.le_refl _) _⟩
    · have R : Hid (inS (a, b) x = false) := (inS_no (a, b) x).2 fun k => h2 k.2
      have d2 : decide (x < b) = false := decide_eq_false h2
      clear h2
      go_enter Try.func29, Try.ntmps29
      go_wp2_with fail
      go_ret
      exact ⟨ret_bool R.out.symm, (Below.refl _ _).alloc (Nat.le_refl _) _⟩
  · have R : Hid (inS (a, b) x = false) := (inS_no (a, b) x).2 fun k => h1 k.1
    have d1 : decide (a ≤ x) = false := decide_eq_false h1
    clear h1
    go_enter Try.func29, Try.ntmps29
    go_wp2_with fail
    go_ret
    exact ⟨ret_bool R.out.symm, (Below.refl _ _).alloc (Nat.le_refl _) _⟩
set_option maxRecDepth 100000 in
set_option maxHeartbeats 4000000 in
theorem index_any (x : Int) (B : Nat) (v : Value) (l : List Sp) (hl : l.length ≤ 1000000) (w : World) (hB : w.cell? ⟨B, 0, none⟩ = some (.int .i64 x)) (h : LstV w v l) :
    Calls Try.prog 38 #[v, .func (.func 29) #[] #[.pointer (some ⟨B, 0, none⟩)]] w fun e w' => ∃ r : Int, e = .returned (.int .i64 r) ∧ memS l x = decide (0 ≤ r) ∧ Below w.heap.size w w' := by
  have hh := h
  obtain ⟨A, c, rfl, -⟩ := hh
  have H := Lib.hid h
  have hBl := World.block_lt_of_cell? _ _ hB
  have HB0 := Lib.hid hB
  clear h hB
  go_enter Try.func38, Try.ntmps38
  go_wp2_with fail
  go_loopw [8] (fun i wr => ∃ k : Nat, i = .int .i64 (k : Int) ∧ k ≤ l.length ∧ Hid (memS (l.take k) x = false) ∧ Hid (Below w.heap.size w wr)) (fun i _ => l.length - (intOf i).toNat)
  case atStart => exact ⟨0, rfl, Nat.zero_le _, Lib.hid rfl, Lib.hid (Below.refl _ _)⟩
  case round =>
    obtain ⟨k, rfl, hk, hm, HB⟩ := hrel
    by_cases hlt : k < l.length
    · obtain ⟨s, hs⟩ := at_lt hlt
      obtain ⟨b, o, rfl, hb, m0, m1⟩ := sp_at (H.out.below HB.out) hs
      have gk : (k : Int) < (l.length : Int) := by omega
      have N := Lib.hid (mem_next hs x)
      have Y := Lib.hid (fun hx => mem_hit hs (x := x) hx)
      have CC := Lib.hid (hit_clo s x B wr ((HB.out.cell (p := ⟨B, 0, none⟩) hBl).trans HB0.out))
      have hz := HB.out.size
      clear hs
      rcases (by cases inS s x <;> simp : inS s x = true ∨ inS s x = false) with hi | hi
      · have R : Hid (memS l x = true) := Y.out ((inS_iff s x).1 hi)
        rw [hi] at CC
        clear N Y hm hi
        go_wp2_with fail
        refine CC.out.mono ?_
        rintro e w2 ⟨rfl, b2⟩
        have B2 := Lib.hid (HB.out.trans (b2.mono hz))
        clear CC b2 HB m0 m1
        go_wp2_with fail
        go_ret
        exact ⟨_, rfl, by rw [R.out]; simp, B2.out⟩
      · have M : Hid (memS (l.take (k + 1)) x = false) := by
          show _ = _
          rw [N.out, hm.out, hi]; rfl
        rw [hi] at CC
        clear N Y hm hi
        go_wp2_with fail
        refine CC.out.mono ?_
        rintro e w2 ⟨rfl, b2⟩
        have B2 := Lib.hid (HB.out.trans (b2.mono hz))
        clear CC b2 HB m0 m1
        go_wp2_with fail
        go_roundw
        case rel => exact ⟨k + 1, by go_num, by omega, M, B2⟩
        case measure => simp [intOf]; omega
    · have d : decide (k < l.length) = false := by rw [decide_eq_false_iff_not]; exact hlt
      have M : Hid (memS l x = false) := by
        have := hm.out
        rw [List.take_of_length_le (by omega)] at this
        exact this
      clear hlt hm
      go_wp2_with fail
      go_ret
      exact ⟨_, rfl, by rw [M.out]; rfl, HB.out⟩
theorem cfunc_any (x : Int) (B : Nat) (v : Value) (l : List Sp) (hl : l.length ≤ 1000000) (w : World) (hB : w.cell? ⟨B, 0, none⟩ = some (.int .i64 x)) (h : LstV w v l) :
    Calls Try.prog 28 #[v, .func (.func 29) #[] #[.pointer (some ⟨B, 0, none⟩)]] w fun e w' => e = .returned (.bool (memS l x)) ∧ Below w.heap.size w w' := by
  have C := Lib.hid (index_any x B v l hl w hB h)
  clear h hB
  go_enter Try.func28, Try.ntmps28
  go_wp2_with fail
  refine C.out.mono ?_
  rintro e w1 ⟨r, rfl, hr, b1⟩
  have R := Lib.hid hr
  have B1 := Lib.hid b1
  clear hr b1 C
  go_wp2_with fail
  go_ret
  exact ⟨ret_bool R.out.symm, B1.out⟩
theorem cont_any (x : Int) (v : Value) (l : List Sp) (hl : l.length ≤ 1000000) (w : World) (h : LstV w v l) : Calls Try.prog 13 #[v, .int .i64 x] w fun e w' => e = .returned (.bool (memS l x)) ∧ Below w.heap.size w w' := by
  have ba : Below w.heap.size w (w.alloc (.cells #[.int .i64 x] 3 (0, 0))) := (Below.refl _ _).alloc (Nat.le_refl _) _
  have C := Lib.hid (cfunc_any x w.heap.size v l hl _ (by rw [cell_of_row _ _ 0 _ _ _ (heap_alloc_new w (.cells #[.int .i64 x] 3 (0, 0)))]; rfl) (h.below ba))
  have BA := Lib.hid ba
  clear h ba
  go_enter Try.func13, Try.ntmps13
  go_wp2_with fail
  refine C.out.mono ?_
  rintro e w1 ⟨rfl, b1⟩
  have B1 := Lib.hid (BA.out.trans (b1.mono BA.out.size))
  clear b1 C BA
  go_wp2_with fail
  go_ret
  exact ⟨rfl, B1.out⟩
theorem u64_two {a b : Int} (h : 0 ≤ b - a ∧ b - a ≤ 18446744073709551615) : IntKind.u64.wrap (IntKind.u64.wrap b - IntKind.u64.wrap a) = b - a := by
  show (b % 18446744073709551616 - a % 18446744073709551616) % 18446744073709551616 = _
  omega
theorem u64_id {a : Int} (h : 0 ≤ a ∧ a ≤ 18446744073709551615) : IntKind.u64.wrap a = a := by
  show a % 18446744073709551616 = _
  omega
set_option maxRecDepth 100000 in
set_option maxHeartbeats 4000000 in
theorem len_any (v : Value) (l : List Sp) (hl : l.length ≤ 1000000) (ok : OkS l) (w : World) (h : LstV w v l) :
    Calls Try.prog 22 #[v] w fun e w' => e = .returned (.tuple #[.int .i64 (if lenS l ≤ 9223372036854775807 then lenS l else 0), .bool (decide (lenS l ≤ 9223372036854775807))]) ∧ Below w.heap.size w w' := by
  have C := Lib.hid (norm_any v l hl w h)
  have hN := (nrmS_spec l).1
  have hO := ok.nrm
  have hlen : (nrmS l).length ≤ 1000000 := Nat.le_trans (nrmS_len l) hl
  unfold lenS
  generalize nrmS l = n at C hN hO hlen ⊢
  clear ok h
  generalize hr : (if sumS n ≤ 9223372036854775807 then sumS n else 0) = r
  generalize hq : decide (sumS n ≤ 9223372036854775807) = q
  have HR := Lib.hid hr
  have HQ := Lib.hid hq
  clear hr hq
  go_enter Try.func22, Try.ntmps22
  go_wp2_with fail
  refine C.out.mono ?_
  rintro er w1 ⟨ve, rfl, l1, b1⟩
  have hh := l1
  obtain ⟨A, c, rfl, -⟩ := hh
  have L1 := Lib.hid l1
  have B1 := Lib.hid b1
  clear l1 b1 C
  go_wp2_with fail
  go_loopw [4, 11] (fun u i wr => ∃ (k : Nat) (S : Int), i = .int .i64 (k : Int) ∧ k ≤ n.length ∧ u = .int .u64 S ∧ S ≤ 9223372036854775807 ∧ Hid (sumS (n.take k) = S) ∧ Hid (Below w1.heap.size w1 wr)) (fun _ i _ => n.length - (intOf i).toNat)
  case atStart => exact ⟨0, 0, rfl, Nat.zero_le _, rfl, by decide, Lib.hid rfl, Lib.hid (Below.refl _ _)⟩
  case round =>
    obtain ⟨k, S, rfl, hk, rfl, hS, HS, HB⟩ := hrel
    by_cases hlt : k < n.length
    · obtain ⟨s, hs⟩ := at_lt hlt
      obtain ⟨p, o, rfl, hp, m0, m1⟩ := sp_at (L1.out.below HB.out) hs
      have gk : (k : Int) < (n.length : Int) := by omega
      have f1 := sum_fits hN hO k
      have f2 := sum_fits hN hO (k + 1)
      have f3 := hO.at hs
      have f4 := nrm_at hN hs
      have f5 := sumS_part hN (k + 1)
      have E := sumS_next hs
      rw [HS.out] at E f1
      have hz := HB.out.size
      obtain ⟨x, y⟩ := s
      simp only at f3 f4 E m0 m1
      have u1 := u64_two (a := x) (b := y) (by omega)
      have u2 : IntKind.u64.wrap (9223372036854775807 - S) = 9223372036854775807 - S := u64_id (by omega)
      have bb : Below wr.heap.size wr (wr.alloc (.cells #[.int .i64 x, .int .i64 y] 27 (0, 0))) := (Below.refl _ _).alloc (Nat.le_refl _) _
      have B2 := Lib.hid (HB.out.trans (bb.mono hz))
      have BB := Lib.hid (B1.out.trans (B2.out.mono B1.out.size))
      clear hs bb
      by_cases hg : 9223372036854775807 - S < y - x
      · have T : Hid (¬ sumS n ≤ 9223372036854775807) := by
          show ¬ _
          omega
        clear E f1 f2 f3 f4 f5 HS hN hO
        go_wp2_with fail
        go_ret2
        refine ⟨?_, BB.out⟩
        rw [← HR.out, ← HQ.out, if_neg (by have := T.out; omega), decide_eq_false (by have := T.out; omega)]
        rfl
      · have hg' : decide (9223372036854775807 - S < y - x) = false := decide_eq_false hg
        have u3 : IntKind.u64.wrap (S + (y - x)) = S + (y - x) := u64_id (by omega)
        have hS2 : S + (y - x) ≤ 9223372036854775807 := by omega
        have E2 := Lib.hid E
        clear E f1 f2 f3 f4 f5 HS hg
        go_wp2_with fail
        go_roundw
        case rel => exact ⟨k + 1, S + (y - x), by go_num, by omega, rfl, hS2, E2, B2⟩
        case measure => simp [intOf]; omega
    · have d : decide (k < n.length) = false := by rw [decide_eq_false_iff_not]; exact hlt
      have R : Hid (sumS n = S) := by
        show _ = _
        rw [← HS.out, List.take_of_length_le (by omega)]
      have f2 := sum_fits hN hO k
      rw [HS.out] at f2
      have W : IntKind.i64.wrap S = S := IntWalk.i64_in _ (by omega)
      have HSS := Lib.hid hS
      clear hlt hN hO HS
      go_wp2_with fail
      go_ret2
      refine ⟨?_, B1.out.trans (HB.out.mono B1.out.size)⟩
      rw [← HR.out, ← HQ.out, R.out, if_pos HSS.out, decide_eq_true HSS.out]
      rfl
end Go.Proofs.Ytmlmdggfcdakhaa
