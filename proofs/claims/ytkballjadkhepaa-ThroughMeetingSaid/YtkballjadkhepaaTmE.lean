/-
  The law ThroughMeeting: each answers true for every input; nothing that existed before the call has changed behind it. Condition: lengths of 63 bits.
-/
import Derived.Test.YtkballjadkhepaaTmO
namespace Go.Proofs.Ytkballjadkhepaa
open Go.RowKit

set_option maxRecDepth 100000 in
set_option maxHeartbeats 4000000 in
theorem meeting_law (va : Value) (a : List Cl) (ha : a.length ≤ 9223372036854775807) (_ : OkCs a) (vb : Value) (b : List Cl) (hb : b.length ≤ 9223372036854775807) (_ : OkCs b) (st : Int) (w : World) (h1 : LstC w va a) (h2 : LstC w vb b) : Calls Try.prog 10 #[va, vb, .int .i64 st] w fun e w' => e = .returned (.bool true) ∧ Below w.heap.size w w' := by
  have H1 := Lib.hid h1
  have H2 := Lib.hid h2
  obtain ⟨A, n, rfl, -, -, -⟩ := h1
  obtain ⟨B, m, rfl, -, -, -⟩ := h2
  by_cases hm : 100 < a.length
  · have g : (100 : Int) < (a.length : Int) := by omega
    have B1 : Hid (Below w.heap.size w w) := Below.refl _ _
    clear hm
    go_enter Try.func10, Try.ntmps10
    go_wp2_with fail
    refine (ex_any _).mono ?_
    rintro e x9 ⟨rfl, y9⟩
    have B9 : Hid (Below w.heap.size w x9) := B1.out.trans (y9.mono B1.out.size)
    clear y9
    go_wp2_with fail
    go_ret
    exact ⟨rfl, B9.out⟩
  have g : decide ((100 : Int) < (a.length : Int)) = false := decide_eq_false (by omega)
  by_cases hm2 : 100 < b.length
  · have g2 : (100 : Int) < (b.length : Int) := by omega
    have B1 : Hid (Below w.heap.size w w) := Below.refl _ _
    clear hm hm2
    go_enter Try.func10, Try.ntmps10
    go_wp2_with fail
    refine (ex_any _).mono ?_
    rintro e x9 ⟨rfl, y9⟩
    have B9 : Hid (Below w.heap.size w x9) := B1.out.trans (y9.mono B1.out.size)
    clear y9
    go_wp2_with fail
    go_ret
    exact ⟨rfl, B9.out⟩
  have g2 : decide ((100 : Int) < (b.length : Int)) = false := decide_eq_false (by omega)
  have K := Lib.hid (kme_any (.slice A a.length n) (.slice B b.length m) a b (by omega) (by omega) st w H1.out H2.out)
  rcases me_is st a b with e | ⟨i, k, ⟨xs, xa, xd, xb, xu⟩, ⟨ys, ya, yd, yb, yu⟩, e, hi, hk, hx, hy, px, py, hle, ba, bb⟩
  · rw [e] at K
    clear e hm hm2
    go_enter Try.func10, Try.ntmps10
    go_wp2_with fail
    refine K.out.mono ?_
    rintro e w1 ⟨rfl, b1⟩
    have B1 := Lib.hid b1
    clear b1 K
    go_wp2_with fail
    refine (ex_any _).mono ?_
    rintro e x9 ⟨rfl, y9⟩
    have B9 : Hid (Below w.heap.size w x9) := B1.out.trans (y9.mono B1.out.size)
    clear y9
    go_wp2_with fail
    go_ret
    exact ⟨rfl, B9.out⟩
  rw [e] at K
  obtain ⟨rfl, hu⟩ := alP_is px
  obtain ⟨hys, hyb⟩ := bdP_is py
  simp only at hu hys hyb
  subst hu hyb
  obtain rfl : xs = ys := hys.symm
  have gi : (i : Int) < (a.length : Int) := by have := (List.getElem?_eq_some_iff.1 hx).1; omega
  have gk : (k : Int) < (b.length : Int) := by omega
  have gk1 : (k : Int) + 1 < (b.length : Int) := by omega
  have hil : i ≤ 100 := by omega
  have hkl : k ≤ 100 := by omega
  have d1 : decide ((i : Int) < 1) = false := decide_eq_false (by omega)
  have d2 : decide ((a.length : Int) ≤ (i : Int)) = false := decide_eq_false (by omega)
  have d2' : decide (a.length ≤ i) = false := decide_eq_false (by omega)
  have d3 : decide ((k : Int) < 0) = false := decide_eq_false (by omega)
  have d4 : decide ((b.length : Int) ≤ (k : Int) + 1) = false := decide_eq_false (by omega)
  have d4' : decide (b.length ≤ k + 1) = false := decide_eq_false (by omega)
  have wk : IntKind.i64.wrap ((k : Int) + 1) = (k : Int) + 1 := IntWalk.i64_in _ (by omega)
  have d5 := neq_false (a := xs) (b := xs) rfl
  have d6 : decide (yd < xa) = false := decide_eq_false hle
  have HX := Lib.hid hx
  have HY := Lib.hid hy
  have BA := Lib.hid ba
  have BB := Lib.hid bb
  clear e hm hm2 px py hx hy ba bb hle
  go_enter Try.func10, Try.ntmps10
  go_wp2_with fail
  refine K.out.mono ?_
  rintro e w1 ⟨rfl, b1⟩
  have B1 := Lib.hid b1
  obtain ⟨ab, ao, rfl, -, r0, r1, r2, r3, r4⟩ := five_at (H1.out.below b1) HX.out
  obtain ⟨bb, bo, rfl, -, s0, s1, s2, s3, s4⟩ := five_at (H2.out.below b1) HY.out
  clear b1 K
  go_wp2_with fail
  go_quiet (fail)
  have B2 : Hid (Below w.heap.size w (w1.drewN nq)) := below_drewN B1.out nq
  generalize w1.drewN nq = w2 at B2 ⊢
  clear d1 d2 d2' d3 d4 d4' wk d6 r0 r1 r2 r3 r4 s0 s1 s2 s3 s4 B1
  have T2 := Lib.hid (H1.out.below B2.out)
  have U2 := Lib.hid (H2.out.below B2.out)
  go_wp2_with fail
  go_loop [10] (fun x => ∃ j : Nat, x = .int .i64 j ∧ 1 ≤ j ∧ j ≤ i) (fun x => i - (intOf x).toNat)
  case atStart => exact ⟨1, rfl, Nat.le_refl _, hi⟩
  case round =>
    obtain ⟨j, rfl, hj1, hj⟩ := hrel
    by_cases hlt : j < i
    · obtain ⟨⟨zs, za, zd, zb, zu⟩, hz⟩ := at_lt (l := a) (k := j) (by omega)
      obtain ⟨c', o', e', -, m0, m1, m2, m3, m4⟩ := five_at T2.out hz
      cases e'
      have hp := BA.out j _ hj1 hlt hz
      have gj : (j : Int) < (i : Int) := by omega
      have gja : (j : Int) < (a.length : Int) := by omega
      by_cases hzs : zs = xs
      · have g1 := beq_true hzs
        obtain rfl : zu = false := by
          cases zu with
          | false => rfl
          | true => rw [alP_yes (st := xs) (x := (zs, za, zd, zb, true)) hzs rfl] at hp; cases hp
        clear hp hz hzs hlt
        go_wp2_with fail
        go_round
        case rel => exact ⟨j + 1, by go_num, by omega, by omega⟩
        case measure => simp [intOf]; omega
      · have g1 := beq_false hzs
        clear hp hz hzs hlt
        go_wp2_with fail
        go_round
        case rel => exact ⟨j + 1, by go_num, by omega, by omega⟩
        case measure => simp [intOf]; omega
    · have dd : decide (j < i) = false := by rw [decide_eq_false_iff_not]; exact hlt
      clear hlt
      go_wp2_with fail
      go_loop [11] (fun x => ∃ j : Nat, x = .int .i64 j ∧ j ≤ k) (fun x => k - (intOf x).toNat)
      case atStart => exact ⟨0, rfl, Nat.zero_le _⟩
      case round =>
        obtain ⟨d, rfl, hd⟩ := hrel
        by_cases hlt2 : d < k
        · obtain ⟨⟨zs, za, zd, zb, zu⟩, hz⟩ := at_lt (l := b) (k := d) (by omega)
          obtain ⟨c', o', e', -, m0, m1, m2, m3, m4⟩ := five_at U2.out hz
          cases e'
          have hp := BB.out d _ hlt2 hz
          have gd : (d : Int) < (k : Int) := by omega
          have gdb : (d : Int) < (b.length : Int) := by omega
          by_cases hzs : zs = xs
          · have g1 := beq_true hzs
            obtain rfl : zb = false := by
              cases zb with
              | false => rfl
              | true => rw [bdP_yes (st := xs) (x := (zs, za, zd, true, zu)) hzs rfl] at hp; cases hp
            clear hp hz hzs hlt2
            go_wp2_with fail
            go_round
            case rel => exact ⟨d + 1, by go_num, by omega⟩
            case measure => simp [intOf]; omega
          · have g1 := beq_false hzs
            clear hp hz hzs hlt2
            go_wp2_with fail
            go_round
            case rel => exact ⟨d + 1, by go_num, by omega⟩
            case measure => simp [intOf]; omega
        · have d2 : decide (d < k) = false := by rw [decide_eq_false_iff_not]; exact hlt2
          clear hlt2
          go_wp2_with fail
          refine (ex_any _).mono ?_
          rintro e x9 ⟨rfl, y9⟩
          have B9 : Hid (Below w.heap.size w x9) := B2.out.trans (y9.mono B2.out.size)
          clear y9
          go_wp2_with fail
          go_ret
          exact ⟨rfl, B9.out⟩
end Go.Proofs.Ytkballjadkhepaa
