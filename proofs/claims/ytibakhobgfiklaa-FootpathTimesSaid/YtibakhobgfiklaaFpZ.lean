/-
  CompactFunc with two footpaths but for StepFree: what the call answers. Condition: rows of at most 100000000 footpaths.
-/
import Derived.Test.YtibakhobgfiklaaFpY
namespace Go.Proofs.Ytibakhobgfiklaa
open Go.RowKit Go.Sort

/-- Whether two footpaths are the same but for StepFree. -/
def likeE (x y : Fp) : Bool := decide (x.1 = y.1 ∧ x.2.1 = y.2.1 ∧ x.2.2.1 = y.2.2.1)
/-- The function that is handed on. -/
abbrev likeEV : Value := .func (.func 39) #[] #[]
theorem likeE_none (w : World) : Calls Try.prog 38 #[.slice none 0 0, likeEV] w fun e w' => e = .returned (.slice none 0 0) ∧ w = w' := by
  go_enter Try.func38, Try.ntmps38
  go_wp2_with fail
  go_ret
  exact ⟨rfl, rfl⟩
set_option maxRecDepth 100000 in
set_option maxHeartbeats 2000000 in
theorem likeE_cpf (base g N c : Nat) (l : List Fp) (hN : l.length = N) (hN2 : N ≤ 100000000) (w : World) (h : OwnF w base (.slice (some ⟨g, 0, none⟩) N c) l) (hs : base ≤ w.heap.size) :
    Calls Try.prog 38 #[.slice (some ⟨g, 0, none⟩) N c, likeEV] w fun e w' =>
      ∃ v, e = .returned v ∧ OwnF w' base v (cpF likeE l) ∧ RowKit.Below base w w' := by
  have hcap : N ≤ c := by
    rcases OwnG.low h with ⟨h0, -⟩ | ⟨g', c', h0, -, -, h1⟩
    · cases h0
    · cases h0; omega
  have H := Lib.hid h
  have HN := Lib.hid hN
  have HZ : Hid (base ≤ w.heap.size) := Lib.hid hs
  clear h hN
  by_cases h2 : N < 2
  · have g2 : (N : Int) < 2 := by omega
    have E : Hid (cpF likeE l = l) := by
      have := HN.out
      match l, this with
      | [], _ => rfl
      | [a], _ => rfl
      | a :: b :: r, h => simp at h; omega
    clear h2
    go_enter Try.func38, Try.ntmps38
    go_wp2_with fail
    go_ret
    exact ⟨_, rfl, by rw [E.out]; exact H.out, RowKit.Below.refl _ _⟩
  · have g2 : decide ((N : Int) < 2) = false := decide_eq_false (by omega)
    have T1 : Hid (cpF likeE (l.take 1) = l.take 1) := by
      show _ = _
      match l with
      | [] => rfl
      | a :: r => rfl
    go_enter Try.func38, Try.ntmps38
    go_wp2_with fail
    clear g2
    go_loopw [5] (fun i wr => ∃ k : Nat, i = .int .i64 (k : Int) ∧ 1 ≤ k ∧ k ≤ N ∧ Hid (cpF likeE (l.take k) = l.take k) ∧ Hid (OwnF wr base (.slice (some ⟨g, 0, none⟩) N c) l) ∧ Hid (RowKit.Below base w wr)) (fun i _ => N - (intOf i).toNat)
    case atStart => exact ⟨1, rfl, Nat.le_refl _, by omega, T1, H, Lib.hid (RowKit.Below.refl _ _)⟩
    case round =>
      clear T1 H h2
      obtain ⟨k, rfl, k1, hk, HT, HO, HB⟩ := hrel
      have HSW : Hid (base ≤ wr.heap.size) := Nat.le_trans HZ.out HB.out.size
      by_cases hlt : k < N
      · have gk : (k : Int) < (N : Int) := by omega
        obtain ⟨q, hq⟩ : ∃ q, k = q + 1 := ⟨k - 1, by omega⟩
        obtain ⟨x, hx⟩ := at_lt (show k < l.length by have := HN.out; omega)
        obtain ⟨y, hy⟩ := at_lt (show q < l.length by have := HN.out; omega)
        have cn := cp_next (e := likeE) (k := q) hy (by rw [← hq]; exact hx)
        rw [← hq] at cn
        have tk := take_at l k x hx
        obtain ⟨x0, x1, x2, x3, -⟩ := OwnQ.at (pr := id) HN.out HO.out hx
        obtain ⟨y0, y1, y2, y3, -⟩ := OwnQ.at (pr := id) HN.out HO.out hy
        have X0 := fun d os => cell_regrown x0 d os
        have X1 := fun d os => cell_regrown x1 d os
        have X2 := fun d os => cell_regrown x2 d os
        have X3 := fun d os => cell_regrown x3 d os
        have Y0 := fun d os => cell_regrown y0 d os
        have Y1 := fun d os => cell_regrown y1 d os
        have Y2 := fun d os => cell_regrown y2 d os
        have Y3 := fun d os => cell_regrown y3 d os
        simp only [id_eq] at X0 X1 X2 X3 Y0 Y1 Y2 Y3
        have wk : IntKind.i64.wrap ((k : Int) - 1) = (q : Int) := by rw [IntKind.wrap_i64]; omega
        have ek : (k : Int) - 1 = (q : Int) := by omega
        have gq : (q : Int) < (N : Int) := by omega
        have D := Lib.hid (fun d os => Calls.regrown_of (w := wr) (d := d) (os := os) (like_any x y _))
        obtain ⟨t, ht⟩ : ∃ t, likeE x y = t := ⟨_, rfl⟩
        have ht' : decide (x.1 = y.1 ∧ x.2.1 = y.2.1 ∧ x.2.2.1 = y.2.2.1) = t := ht
        rw [ht'] at D
        rw [ht] at cn
        have bk : k + 1 ≤ 100000000 := by omega
        clear hx hy hq x0 x1 x2 x3 y0 y1 y2 y3 ht ht'
        cases t with
        | false =>
          have NT : Hid (cpF likeE (l.take (k + 1)) = l.take (k + 1)) := by show _ = _; rw [cn.2 rfl, HT.out, ← tk]
          clear cn HT tk
          go_wp2_with fail
          refine wp_region_quiet_below (by kernel_rfl) (by kernel_rfl) ?_
          repeat (go_big_quiet_step (with_reducible exact D.out _ _))
          refine wpQuiet_nil ?_
          intro w4 hw4
          obtain ⟨b4, c4⟩ := grown_below HB.out HSW.out hw4
          have O4 := Lib.hid (HO.out.below c4)
          have B4 := Lib.hid b4
          clear hw4 b4 c4 D HB HO X0 X1 X2 X3 Y0 Y1 Y2 Y3 ek wk
          go_wp2_with fail
          go_roundw
          case rel => exact ⟨k + 1, by go_num, by omega, by omega, NT, O4, B4⟩
          case measure => simp [intOf]; omega
        | true =>
          have NT : Hid (cpF likeE (l.take (k + 1)) = l.take k) := by show _ = _; rw [cn.1 rfl, HT.out]
          have F1 := fps_from g N c k hlt hcap
          clear cn HT tk
          go_wp2_with fail
          refine wp_region_quiet_below (by kernel_rfl) (by kernel_rfl) ?_
          repeat (go_big_quiet_step (with_reducible exact D.out _ _))
          refine wpQuiet_nil ?_
          intro w4 hw4
          obtain ⟨b4, c4⟩ := grown_below HB.out HSW.out hw4
          have O4 : Hid (CpS w4 base g N c likeE l k (k + 1)) := Lib.hid ⟨l, HN.out, NT.out.symm, rfl, HO.out.below c4⟩
          have B4 := Lib.hid b4
          obtain ⟨n2, hn2⟩ : ∃ n2, N - k = n2 := ⟨_, rfl⟩
          obtain ⟨c2, hc2⟩ : ∃ c2, c - k = c2 := ⟨_, rfl⟩
          rw [hn2, hc2] at F1
          have HN2 : Hid (k + n2 = N) := by show _ = _; omega
          have bn2 : n2 ≤ 100000000 := by omega
          have K0 : Hid (1 ≤ k) := Lib.hid k1
          clear hw4 b4 c4 D HB HO HSW X0 X1 X2 X3 Y0 Y1 Y2 Y3 ek wk hn2 hc2
          go_wp2_with fail
          clear F1
          go_loopw [5, 7] (fun a b wr => ∃ i j : Nat, a = .int .i64 (i : Int) ∧ b = .int .i64 (j : Int) ∧ 1 ≤ j ∧ j ≤ n2 ∧ i < k + j ∧ Hid (CpS wr base g N c likeE l i (k + j)) ∧ Hid (RowKit.Below base w wr)) (fun _ b _ => n2 - (intOf b).toNat)
          case atStart => exact ⟨k, 1, rfl, rfl, Nat.le_refl _, by have := HN2.out; omega, by omega, O4, B4⟩
          case round =>
            clear O4 B4
            obtain ⟨i, j, rfl, rfl, j1, hj, hij, HS, HB⟩ := hrel
            have HSW : Hid (base ≤ wr.heap.size) := Nat.le_trans HZ.out HB.out.size
            by_cases hltj : j < n2
            · have gj : (j : Int) < (n2 : Int) := by omega
              obtain ⟨R, r1, r2, r3, o⟩ := HS.out
              have hkn := HN2.out
              obtain ⟨p, hp⟩ : ∃ p, j = p + 1 := ⟨j - 1, by omega⟩
              obtain ⟨x, hx⟩ := at_lt (show k + j < l.length by have := HN.out; omega)
              obtain ⟨y, hy⟩ := at_lt (show k + p < l.length by have := HN.out; omega)
              obtain ⟨z, hz⟩ := at_lt (show i < R.length by omega)
              have cn := cp_next (e := likeE) (k := k + p) hy (by rw [show k + p + 1 = k + j by omega]; exact hx)
              rw [show k + p + 1 = k + j by omega] at cn
              have hRx : R[k + j]? = some x := by
                have e : (R.drop (k + j - 1))[1]? = (l.drop (k + j - 1))[1]? := by rw [r3]
                rw [List.getElem?_drop, List.getElem?_drop, show k + j - 1 + 1 = k + j by omega] at e
                exact e.trans hx
              have hRy : R[k + p]? = some y := by
                have e : (R.drop (k + j - 1))[0]? = (l.drop (k + j - 1))[0]? := by rw [r3]
                rw [List.getElem?_drop, List.getElem?_drop, show k + j - 1 + 0 = k + p by omega] at e
                exact e.trans hy
              obtain ⟨x0, x1, x2, x3, -⟩ := OwnQ.at (pr := id) r1 o hRx
              obtain ⟨y0, y1, y2, y3, -⟩ := OwnQ.at (pr := id) r1 o hRy
              rw [Nat.add_mul] at x0 x1 x2 x3 y0 y1 y2 y3
              have X0 := fun d os => cell_regrown x0 d os
              have X1 := fun d os => cell_regrown x1 d os
              have X2 := fun d os => cell_regrown x2 d os
              have X3 := fun d os => cell_regrown x3 d os
              have Y0 := fun d os => cell_regrown y0 d os
              have Y1 := fun d os => cell_regrown y1 d os
              have Y2 := fun d os => cell_regrown y2 d os
              have Y3 := fun d os => cell_regrown y3 d os
              simp only [id_eq] at X0 X1 X2 X3 Y0 Y1 Y2 Y3
              have wj : IntKind.i64.wrap ((j : Int) - 1) = (p : Int) := by rw [IntKind.wrap_i64]; omega
              have ej : (j : Int) - 1 = (p : Int) := by omega
              have gp : (p : Int) < (n2 : Int) := by omega
              have gi : (i : Int) < (N : Int) := by omega
              have D := Lib.hid (fun d os => Calls.regrown_of (w := wr) (d := d) (os := os) (like_any x y _))
              obtain ⟨t, ht⟩ : ∃ t, likeE x y = t := ⟨_, rfl⟩
              have ht' : decide (x.1 = y.1 ∧ x.2.1 = y.2.1 ∧ x.2.2.1 = y.2.2.1) = t := ht
              rw [ht'] at D
              rw [ht] at cn
              have RR : Hid (R.length = N ∧ R.take i = cpF likeE (l.take (k + j)) ∧ R.drop (k + j - 1) = l.drop (k + j - 1) ∧ R[k + j]? = some x ∧ R[i]? = some z) := Lib.hid ⟨r1, r2, r3, hRx, hz⟩
              have HO := Lib.hid o
              have HP := Lib.hid hp
              have bi : i + 1 ≤ 100000000 := by omega
              have bj : j + 1 ≤ 100000000 := by omega
              clear hx hy hp hz hRx hRy x0 x1 x2 x3 y0 y1 y2 y3 ht ht' r1 r2 r3 o HS hkn
              cases t with
              | true =>
                have NT : Hid (cpF likeE (l.take (k + j + 1)) = cpF likeE (l.take (k + j))) := cn.1 rfl
                clear cn
                go_wp2_with fail
                refine wp_region_quiet_below (by kernel_rfl) (by kernel_rfl) ?_
                repeat (go_big_quiet_step (with_reducible exact D.out _ _))
                refine wpQuiet_nil ?_
                intro w4 hw4
                obtain ⟨b4, c4⟩ := grown_below HB.out HSW.out hw4
                have O4 := Lib.hid (cps_skip RR.out.1 RR.out.2.1 RR.out.2.2.1 NT.out (by omega) (HO.out.below c4))
                have B4 := Lib.hid b4
                clear hw4 b4 c4 D HB HO X0 X1 X2 X3 Y0 Y1 Y2 Y3 ej wj
                go_wp2_with fail
                go_roundw
                case rel => exact ⟨i, j + 1, rfl, by go_num, by omega, by omega, by omega, O4, B4⟩
                case measure => simp [intOf]; omega
              | false =>
                have NT : Hid (cpF likeE (l.take (k + j + 1)) = cpF likeE (l.take (k + j)) ++ [x]) := cn.2 rfl
                clear cn
                go_wp2_with fail
                refine wp_region_quiet_below (by kernel_rfl) (by kernel_rfl) ?_
                repeat (go_big_quiet_step (with_reducible exact D.out _ _))
                refine wpQuiet_nil ?_
                intro w4 hw4
                obtain ⟨b4, c4⟩ := grown_below HB.out HSW.out hw4
                have o4 := HO.out.below c4
                obtain ⟨x0, x1, x2, x3, -⟩ := OwnQ.at (pr := id) RR.out.1 o4 RR.out.2.2.2.1
                obtain ⟨z0, z1, z2, z3, f0, f1, f2, f3⟩ := OwnQ.at (pr := id) RR.out.1 o4 RR.out.2.2.2.2
                rw [Nat.add_mul] at x0 x1 x2 x3
                have K0 := OwnQ.put (pr := id) RR.out.1 o4 (i := i) (by omega) x
                have K1 := put4_below (OwnQ.base (pr := id) o4).1 b4 (i * 4) x
                unfold put4 at K0 K1
                simp only [id_eq] at K0 x0 x1 x2 x3
                have KK := Lib.hid (cps_put RR.out.1 RR.out.2.1 RR.out.2.2.1 NT.out hij (by omega) (by have := HN2.out; omega) K0)
                have KB := Lib.hid K1
                clear hw4 b4 c4 D HB HO X0 X1 X2 X3 Y0 Y1 Y2 Y3 ej wj K0 K1 o4
                go_wp2_with fail
                go_roundw
                case rel => exact ⟨i + 1, j + 1, by go_num, by go_num, by omega, by omega, by omega, KK, KB⟩
                case measure => simp [intOf]; omega
            · have d : decide (j < n2) = false := by rw [decide_eq_false_iff_not]; exact hltj
              obtain rfl : j = n2 := by omega
              obtain ⟨R, r1, r2, -, o⟩ := HS.out
              have hkn := HN2.out
              rw [List.take_of_length_le (l := l) (by have := HN.out; omega)] at r2
              obtain ⟨k1', k2, k3⟩ := own_clear o i (by omega)
              rw [r2] at k2
              have K2 := Lib.hid k2
              have K3 := Lib.hid (k3 w HB.out)
              have F1 := fps_from g N c i (by omega) hcap
              have F2 := fps_to g N c i (by omega) hcap
              have gi : (i : Int) < (N : Int) := by omega
              clear hltj HS o k2 k3 r1 r2 hkn
              go_wp2_with fail
              go_ret
              exact ⟨_, rfl, K2.out, K3.out⟩
      · have d : decide (k < N) = false := by rw [decide_eq_false_iff_not]; exact hlt
        have E : Hid (cpF likeE l = l) := by
          have := HT.out
          rw [List.take_of_length_le (l := l) (by have := HN.out; omega)] at this
          exact this
        clear hlt HT
        go_wp2_with fail
        go_ret
        exact ⟨_, rfl, by rw [E.out]; exact HO.out, HB.out⟩
/-- At whatever row. -/
theorem likeE_any (base : Nat) (v : Value) (l : List Fp) (hl : l.length ≤ 100000000) (w : World) (h : OwnF w base v l) (hs : base ≤ w.heap.size) :
    Calls Try.prog 38 #[v, likeEV] w fun e w' => ∃ v', e = .returned v' ∧ OwnF w' base v' (cpF likeE l) ∧ RowKit.Below base w w' := by
  rcases h.low with ⟨rfl, rfl⟩ | ⟨g, c, rfl, -⟩
  · refine (likeE_none w).mono ?_
    rintro e w' ⟨rfl, rfl⟩
    exact ⟨_, rfl, h, RowKit.Below.refl _ _⟩
  · exact likeE_cpf base g l.length c l rfl hl w h hs
end Go.Proofs.Ytibakhobgfiklaa
