/-
  The law BinencPrefixes: true for every input, nothing that existed has changed. Condition: none beyond the theorem's own hypotheses.
-/
import Derived.Test.YteojfgpinmpocaaEC
namespace Go.Proofs.Yteojfgpinmpocaa
open Go.RowKit

set_option maxRecDepth 100000 in
set_option maxHeartbeats 2000000 in
theorem prefixes_law (n : Int) (hn : I64 n) (v : Value) (l : List UInt8) (_ : l.length ≤ 9223372036854775807) (v' : Value) (l' : List Int) (_ : l'.length ≤ 9223372036854775807) (hi : ∀ x ∈ l', I64 x) (w : World) (h : LstB w v l) (h' : LstI w v' l') : Calls Try.prog 12 #[.int .i64 n, v, v'] w fun e w' => e = .returned (.bool true) ∧ Below w.heap.size w w' := by
  have X := Lib.hid (fun W => ex_any W)
  by_cases h1 : 200 < l.length
  · obtain ⟨A, c, rfl, -⟩ := h
    obtain ⟨A', c', rfl, -⟩ := h'
    have g : (200 : Int) < (l.length : Int) := by omega
    clear h1
    go_enter Try.func12, Try.ntmps12
    go_wp2_with fail
    refine (X.out _).mono ?_
    rintro e w1 ⟨rfl, b1⟩
    go_wp2_with fail
    go_ret
    exact ⟨rfl, b1⟩
  have g1 : decide ((200 : Int) < (l.length : Int)) = false := by simp; omega
  by_cases h2 : 50 < l'.length
  · obtain ⟨A, c, rfl, -⟩ := h
    obtain ⟨A', c', rfl, -⟩ := h'
    have g : (50 : Int) < (l'.length : Int) := by omega
    clear h1 h2
    go_enter Try.func12, Try.ntmps12
    go_wp2_with fail
    refine (X.out _).mono ?_
    rintro e w1 ⟨rfl, b1⟩
    go_wp2_with fail
    go_ret
    exact ⟨rfl, b1⟩
  have g2 : decide ((50 : Int) < (l'.length : Int)) = false := by simp; omega
  have M1 := Lib.hid (pint_any n hn w)
  have M2 := Lib.hid (fun W (hb : Below w.heap.size w W) => pbytes_any v l (by omega) W (h.below hb))
  have M3 := Lib.hid (fun W (hb : Below w.heap.size w W) => pints_any v' l' (by omega) hi W (h'.below hb))
  have T1 := Lib.hid (fun i hi => rI_short [] n i hi)
  have T2 := Lib.hid (fun i hi => rB_short l i hi (by omega))
  have T3 := Lib.hid (fun i hl => rL_short l' i hl (by omega) hi)
  have L1 := Lib.hid (putI_len n)
  have L2 := Lib.hid (putB_len l)
  have L3 := Lib.hid (putL_len l')
  generalize putI n = P1 at M1 T1 L1
  generalize putB l = P2 at M2 T2 L2
  generalize putL l' = P3 at M3 T3 L3
  have k1 : l.length ≤ 200 := by omega
  have k2 : l'.length ≤ 50 := by omega
  obtain ⟨A, c, rfl, -⟩ := h
  obtain ⟨A', c', rfl, -⟩ := h'
  clear h1 h2 hi hn
  go_enter Try.func12, Try.ntmps12
  go_wp2_with fail
  refine M1.out.mono ?_
  rintro e w1 ⟨u1, rfl, o1, b1⟩
  have O1 := Lib.hid o1
  have B1 := Lib.hid b1
  clear o1 b1 M1
  go_wp2_with fail
  refine (M2.out w1 B1.out).mono ?_
  rintro e w2 ⟨u2, rfl, o2, b2⟩
  have O1 := Lib.hid (own_on b2 O1.out)
  have O2 := Lib.hid o2
  have B2 := Lib.hid (bel_on B1.out b2)
  clear o2 b2 M2 B1
  go_wp2_with fail
  refine (M3.out w2 B2.out).mono ?_
  rintro e w3 ⟨u3, rfl, o3, b3⟩
  have O1 := Lib.hid (own_on b3 O1.out)
  have O2 := Lib.hid (own_on b3 O2.out)
  have O3 := Lib.hid o3
  have B3 := Lib.hid (bel_on B2.out b3)
  clear o3 b3 M3 B2
  obtain ⟨A1, c1, rfl⟩ := own_shape' O1.out
  obtain ⟨A2, c2, rfl⟩ := own_shape' O2.out
  obtain ⟨A3, c3, rfl⟩ := own_shape' O3.out
  go_wp2_with fail
  go_loopw [10] (fun iv wr => ∃ k : Nat, iv = .int .i64 k ∧ k ≤ P1.length ∧ Hid (Below w3.heap.size w3 wr)) (fun iv _ => P1.length - (intOf iv).toNat)
  case atStart => exact ⟨0, rfl, Nat.zero_le _, Lib.hid (Below.refl _ _)⟩
  case round =>
    obtain ⟨k, rfl, hk, BB⟩ := hrel
    by_cases hlt : k < P1.length
    · have gk : (k : Int) < (P1.length : Int) := by omega
      have kb := L1.out.2
      obtain ⟨x, S, hx⟩ := bts_to (own_on BB.out O1.out).lst k (by omega) (k : Int) rfl
      have M := Lib.hid (int_any x (P1.take k) (by rw [List.length_take]; have := L1.out; omega) 0 wr hx)
      rw [show rI (P1.take k) 0 = (0, 0, 4) from T1.out k hlt] at M
      clear hx
      go_wp2_with fail
      refine M.out.mono ?_
      rintro e w' ⟨rfl, rfl⟩
      have NB := BB
      clear M
      go_wp2_with fail
      go_roundw
      case rel => exact ⟨k + 1, by go_num, by omega, NB⟩
      case measure => simp [intOf]; omega
    · have d : decide (k < P1.length) = false := by rw [decide_eq_false_iff_not]; exact hlt
      clear hlt
      have O2 := Lib.hid (own_on BB.out O2.out)
      have O3 := Lib.hid (own_on BB.out O3.out)
      have BW := Lib.hid (bel_on B3.out BB.out)
      obtain ⟨wa, rfl⟩ : ∃ x, x = wr := ⟨_, rfl⟩
      go_wp2_with fail
      go_loopw [14] (fun iv wr => ∃ k : Nat, iv = .int .i64 k ∧ k ≤ P2.length ∧ Hid (Below wa.heap.size wa wr)) (fun iv _ => P2.length - (intOf iv).toNat)
      case atStart => exact ⟨0, rfl, Nat.zero_le _, Lib.hid (Below.refl _ _)⟩
      case round =>
        obtain ⟨k, rfl, hk, BB⟩ := hrel
        by_cases hlt : k < P2.length
        · have gk : (k : Int) < (P2.length : Int) := by omega
          have kb := L2.out.2
          obtain ⟨x, S, hx⟩ := bts_to (own_on BB.out O2.out).lst k (by omega) (k : Int) rfl
          have M := Lib.hid (bytes_any x (P2.take k) (by rw [List.length_take]; have := L2.out; omega) 0 (l.length : Int) (by omega) wr hx)
          rw [T2.out k hlt] at M
          clear hx
          go_wp2_with fail
          refine M.out.mono ?_
          rintro e w' ⟨x', rfl, -, b'⟩
          have NB := Lib.hid (bel_on BB.out b')
          clear b'
          clear M
          go_wp2_with fail
          go_roundw
          case rel => exact ⟨k + 1, by go_num, by omega, NB⟩
          case measure => simp [intOf]; omega
        · have d : decide (k < P2.length) = false := by rw [decide_eq_false_iff_not]; exact hlt
          clear hlt
          have O3 := Lib.hid (own_on BB.out O3.out)
          have BW := Lib.hid (bel_on BW.out BB.out)
          obtain ⟨wb, rfl⟩ : ∃ x, x = wr := ⟨_, rfl⟩
          go_wp2_with fail
          go_loopw [18] (fun iv wr => ∃ k : Nat, iv = .int .i64 k ∧ k ≤ P3.length ∧ Hid (Below wb.heap.size wb wr)) (fun iv _ => P3.length - (intOf iv).toNat)
          case atStart => exact ⟨0, rfl, Nat.zero_le _, Lib.hid (Below.refl _ _)⟩
          case round =>
            obtain ⟨k, rfl, hk, BB⟩ := hrel
            by_cases hlt : k < P3.length
            · have gk : (k : Int) < (P3.length : Int) := by omega
              have kb := L3.out
              obtain ⟨x, S, hx⟩ := bts_to (own_on BB.out O3.out).lst k (by omega) (k : Int) rfl
              have M := Lib.hid (ints_any x (P3.take k) (by rw [List.length_take]; have := L3.out; omega) 0 (l'.length : Int) (by omega) wr hx)
              rw [T3.out k hlt] at M
              clear hx
              go_wp2_with fail
              refine M.out.mono ?_
              rintro e w' ⟨x', rfl, -, b'⟩
              have NB := Lib.hid (bel_on BB.out b')
              clear b'
              clear M
              go_wp2_with fail
              go_roundw
              case rel => exact ⟨k + 1, by go_num, by omega, NB⟩
              case measure => simp [intOf]; omega
            · have d : decide (k < P3.length) = false := by rw [decide_eq_false_iff_not]; exact hlt
              clear hlt
              go_wp2_with fail
              refine (X.out _).mono ?_
              rintro e w' ⟨rfl, b'⟩
              have NB := Lib.hid (bel_on (bel_on BW.out BB.out) b')
              go_wp2_with fail
              go_ret
              exact ⟨rfl, NB.out⟩
theorem prefixes_fin (n : Int) (v : Value) (l : List UInt8) (hl : l.length ≤ 9223372036854775807) (v' : Value) (l' : List Int) (hl' : l'.length ≤ 9223372036854775807) (hi : ∀ x ∈ l', I64 x) (lo : -9223372036854775808 ≤ n) (up : n ≤ 9223372036854775807) (w : World) (h : LstB w v l) (h' : LstI w v' l') : Calls Try.prog 12 #[.int .i64 n, v, v'] w fun e w' => e = .returned (.bool true) ∧ Below w.heap.size w w' :=
  prefixes_law n ⟨lo, up⟩ v l hl v' l' hl' hi w h h'
end Go.Proofs.Yteojfgpinmpocaa
