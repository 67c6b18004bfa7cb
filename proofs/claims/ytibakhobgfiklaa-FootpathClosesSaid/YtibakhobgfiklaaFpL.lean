/-
  A row of footpaths and one element behind it merged in place. Condition: rows of at most 100000000 elements.
-/
import Derived.Test.YtibakhobgfiklaaFpM
namespace Go.Proofs.Ytibakhobgfiklaa
open Go.RowKit Go.Sort

set_option maxRecDepth 100000 in
set_option maxHeartbeats 2000000 in
theorem sym_last (base g c N a m b n1 : Nat) (A X B : List Tg) (y : Tg) (hA : A.length = a) (hn1 : X.length = n1) (hn2 : 1 < n1) (hX : a + n1 = m) (hY : m + 1 = b) (hN : b + B.length = N) (hN2 : N ≤ 100000000) (sX : X.Pairwise ltT) (cr : Crs cfT ltT X [y]) (w : World)
    (h : OwnT w base (.slice (some ⟨g, 0, none⟩) N c) (A ++ (X ++ ([y] ++ B)))) (hs : base ≤ w.heap.size) :
    Calls Try.prog 79 #[.slice (some ⟨g, 0, none⟩) N c, .int .i64 (a : Int), .int .i64 (m : Int), .int .i64 (b : Int), cmpV] w fun e w' =>
      e = .returned (.tuple #[]) ∧ ∃ Z, Z.Perm (X ++ [y]) ∧ Z.Pairwise ltT ∧ OwnT w' base (.slice (some ⟨g, 0, none⟩) N c) (A ++ (Z ++ B)) ∧ RowKit.Below base w w' := by
  have HS := Lib.hid hs
  have H := Lib.hid h
  have HX := Lib.hid hX
  have HA := Lib.hid hA
  have HY := Lib.hid hY
  have H1 := Lib.hid hn1
  have SX := Lib.hid sX
  have CR := Lib.hid cr
  have e0 : (m : Int) - (a : Int) = (n1 : Int) := by omega
  have t0 : ((n1 : Int) == 1) = false := beq_false (by omega)
  have e1 : (b : Int) - (m : Int) = 1 := by omega
  have bb : b ≤ 100000000 := by omega
  have bm : m ≤ 100000000 := by omega
  have b1 : n1 ≤ 100000000 := by omega
  have bM : m < N := by omega
  clear h hs hA hY sX cr hX hN hn1 hn2
  go_enter Try.func79, Try.ntmps79
  go_wp2_with fail
  clear e0 t0 e1
  go_loopw [14, 15] (fun i j wr => ∃ (i' j' p q : Nat), i = .int .i64 (i' : Int) ∧ j = .int .i64 (j' : Int) ∧ Hid (a + p = i' ∧ a + q = j' ∧ p ≤ q ∧ q ≤ X.length) ∧ Hid ((∀ x ∈ X.take p, ltT x y) ∧ (∀ x ∈ X.drop q, ltT y x)) ∧ Hid (OwnT wr base (.slice (some ⟨g, 0, none⟩) N c) (A ++ (X ++ ([y] ++ B)))) ∧ Hid (RowKit.Below base w wr)) (fun i j _ => (intOf j).toNat - (intOf i).toNat)
  case atStart =>
    refine ⟨a, m, 0, X.length, rfl, rfl, Lib.hid ⟨rfl, by have := HX.out; have := H1.out; omega, Nat.zero_le _, Nat.le_refl _⟩, Lib.hid ⟨fun y hy => ?_, fun y hy => ?_⟩, H, Lib.hid (RowKit.Below.refl _ _)⟩
    · simp at hy
    · simp at hy
  case round =>
    clear H
    obtain ⟨i, j, p, q, rfl, rfl, HI, HL, HO, HB⟩ := hrel
    obtain ⟨i1, i2, i3, i4⟩ := HI.out
    have HSW : Hid (base ≤ wr.heap.size) := Nat.le_trans HS.out HB.out.size
    have bj : j ≤ m := by have := HX.out; have := H1.out; omega
    by_cases hlt : i < j
    · have gi : (i : Int) < (j : Int) := by omega
      obtain ⟨k, hk⟩ : ∃ k, (i + j) / 2 = k := ⟨_, rfl⟩
      have ek : ((i : Int) + (j : Int)) / 2 = (k : Int) := by omega
      have k1 : i ≤ k := by omega
      have k2 : k < j := by omega
      obtain ⟨t, ht⟩ : ∃ t, k - a = t := ⟨_, rfl⟩
      have htl : t < X.length := by omega
      obtain ⟨x, hx⟩ := at_lt htl
      have a1 := (seg_x (R := [y] ++ B) HA.out htl (show a + t = k by omega)).trans hx
      have a2 : (A ++ (X ++ ([y] ++ B)))[m]? = some y := seg_y (t := 0) HA.out (by have := HX.out; have := H1.out; omega) (by simp) (Nat.add_zero m)
      obtain ⟨Y0, Y1, Y2, Y3⟩ := cells_grown HO.out a2
      obtain ⟨X0, X1, X2, X3⟩ := cells_grown HO.out a1
      have D := Lib.hid (fun d os => Calls.regrown_of (w := wr) (d := d) (os := os) (cmp_at y.1 x.1 _))
      have gk : (k : Int) < (N : Int) := by omega
      have gm : (m : Int) < (N : Int) := by omega
      obtain ⟨r, hr⟩ : ∃ r, cfP y.1 x.1 = r := ⟨_, rfl⟩
      rw [hr] at D
      have MK : Hid (i ≤ k ∧ k < j) := Lib.hid ⟨k1, k2⟩
      have bj : k + 1 ≤ 100000000 := by omega
      by_cases hr0 : r < 0
      · have NI : Hid (a + p = i ∧ a + t = k ∧ p ≤ t ∧ t ≤ X.length) := by refine ⟨?_, ?_, ?_, ?_⟩ <;> omega
        have NL : Hid ((∀ z ∈ X.take p, ltT z y) ∧ (∀ z ∈ X.drop t, ltT y z)) := Lib.hid ⟨HL.out.1, high_drop ordT SX.out hx (ordT.less (by show cfP y.1 x.1 < 0; rw [hr]; exact hr0))⟩
        clear i1 i2 i3 i4 hr hx ht htl a1 a2 hlt k1 k2 HL HI
        go_wp2_with fail
        refine wp_region_quiet_below (by kernel_rfl) (by kernel_rfl) ?_
        repeat (go_big_quiet_step (with_reducible exact D.out _ _))
        refine wpQuiet_nil ?_
        intro w4 hw4
        obtain ⟨b4, c4⟩ := grown_below HB.out HSW.out hw4
        have O4 := Lib.hid (HO.out.below c4)
        have B4 := Lib.hid b4
        clear hw4 b4 c4 D HB HO X0 X1 X2 X3 Y0 Y1 Y2 Y3 hr0 ek
        go_wp2_with fail
        go_roundw
        case rel => exact ⟨i, k, p, t, rfl, rfl, NI, NL, O4, B4⟩
        case measure => have := MK.out; simp [intOf]; omega
      · have d0 : decide (r < 0) = false := decide_eq_false hr0
        have NI : Hid (a + (t + 1) = k + 1 ∧ a + q = j ∧ t + 1 ≤ q ∧ q ≤ X.length) := by refine ⟨?_, ?_, ?_, ?_⟩ <;> omega
        have NL : Hid ((∀ z ∈ X.take (t + 1), ltT z y) ∧ (∀ z ∈ X.drop q, ltT y z)) := Lib.hid ⟨low_take ordT SX.out hx (ordT.tie (by show ¬ cfP y.1 x.1 < 0; rw [hr]; exact hr0) (CR.out x (List.mem_iff_getElem?.2 ⟨t, hx⟩) y (by simp))), HL.out.2⟩
        clear i1 i2 i3 i4 hr hx ht htl a1 a2 hlt k1 k2 HL HI hr0
        go_wp2_with fail
        refine wp_region_quiet_below (by kernel_rfl) (by kernel_rfl) ?_
        repeat (go_big_quiet_step (with_reducible exact D.out _ _))
        refine wpQuiet_nil ?_
        intro w4 hw4
        obtain ⟨b4, c4⟩ := grown_below HB.out HSW.out hw4
        have O4 := Lib.hid (HO.out.below c4)
        have B4 := Lib.hid b4
        clear hw4 b4 c4 D HB HO X0 X1 X2 X3 Y0 Y1 Y2 Y3 d0 ek
        go_wp2_with fail
        go_roundw
        case rel => exact ⟨k + 1, j, t + 1, q, by go_num, rfl, NI, NL, O4, B4⟩
        case measure => have := MK.out; simp [intOf]; omega
    · have d : decide (i < j) = false := by rw [decide_eq_false_iff_not]; exact hlt
      obtain rfl : p = q := by omega
      have HF : Hid (a + p = i) := Lib.hid i1
      have HP : Hid (p ≤ X.length) := Lib.hid i4
      have S0 : Hid (OwnT wr base (.slice (some ⟨g, 0, none⟩) N c) (A ++ (X.take X.length ++ y :: (X.drop X.length ++ B)))) := by
        show OwnQ _ _ _ _ _
        rw [List.take_length, List.drop_length]
        exact HO.out
      clear hlt i1 i2 i3 i4 HI HO
      go_wp2_with fail
      go_loopw [17] (fun k wr => ∃ k' t : Nat, k = .int .i64 (k' : Int) ∧ Hid (a + t = k') ∧ Hid (p ≤ t ∧ t ≤ X.length) ∧ Hid (OwnT wr base (.slice (some ⟨g, 0, none⟩) N c) (A ++ (X.take t ++ y :: (X.drop t ++ B)))) ∧ Hid (RowKit.Below base w wr)) (fun k _ => (intOf k).toNat)
      case atStart => exact ⟨m, X.length, rfl, by have := HX.out; have := H1.out; show _ = _; omega, Lib.hid ⟨HP.out, Nat.le_refl _⟩, S0, HB⟩
      case round =>
        clear S0 HB HSW
        obtain ⟨k, t, rfl, HK, HT, HO, HB⟩ := hrel
        by_cases hlt : i < k
        · have gi : (i : Int) < (k : Int) := by omega
          obtain ⟨s, rfl⟩ : ∃ s, t = s + 1 := ⟨t - 1, by have := HK.out; have := HF.out; omega⟩
          have hsl : s < X.length := HT.out.2
          obtain ⟨x, hx⟩ := at_lt hsl
          have dx : X.drop s = x :: X.drop (s + 1) := by rw [List.drop_eq_getElem_cons hsl, (List.getElem?_eq_some_iff.1 hx).2]
          have tx : X.take (s + 1) = X.take s ++ [x] := by rw [List.take_succ_eq_append_getElem hsl, (List.getElem?_eq_some_iff.1 hx).2]
          obtain ⟨k', hk'⟩ : ∃ k', k = k' + 1 := ⟨k - 1, by omega⟩
          have S := HO.out
          have le0 : A ++ (X.take (s + 1) ++ y :: (X.drop (s + 1) ++ B)) = (A ++ X.take s) ++ x :: y :: (X.drop (s + 1) ++ B) := by
            rw [tx]
            simp only [List.append_assoc, List.cons_append, List.nil_append]
          rw [le0] at S
          obtain ⟨a1, a2, a3⟩ := swp_down (A ++ X.take s) (X.drop (s + 1) ++ B) x y (i := k') (j := k) (by have := HA.out; have := HK.out; rw [List.length_append, List.length_take]; omega) (by have := HA.out; have := HK.out; rw [List.length_append, List.length_take]; omega)
          have hl := own_len S
          have hkN : k < N := by
            have := (List.getElem?_eq_some_iff.1 a2).1
            omega
          obtain ⟨x0, x1, x2, x3, r0, r1, r2, r3⟩ := OwnQ.at hl S a1
          obtain ⟨y0, y1, y2, y3, s0, s1, s2, s3⟩ := OwnQ.at hl S a2
          have K0 := OwnQ.two hl S HB.out (i := k) (j := k') hkN (by omega) y x
          rw [a3] at K0
          unfold put4 at K0
          have le : (A ++ X.take s) ++ y :: x :: (X.drop (s + 1) ++ B) = A ++ (X.take s ++ y :: (X.drop s ++ B)) := by
            rw [dx]
            simp only [List.append_assoc, List.cons_append]
          rw [le] at K0
          have K := Lib.hid K0
          have wk : IntKind.i64.wrap ((k : Int) - 1) = (k' : Int) := by rw [IntKind.wrap_i64]; omega
          have ek : (k : Int) - 1 = (k' : Int) := by omega
          have gk : (k : Int) < (N : Int) := by omega
          have gk' : (k' : Int) < (N : Int) := by omega
          have bk : k ≤ 100000000 := by omega
          have NK : Hid (a + s = k' ∧ p ≤ s ∧ s ≤ X.length ∧ k' < k) := by
            have := HK.out; have := HF.out
            refine ⟨?_, ?_, ?_, ?_⟩ <;> omega
          clear hk' K0 le le0 S a1 a2 a3 hl hx dx tx HB HO HK HT hsl hkN
          go_wp2_with fail
          go_region
          go_wp2_with fail
          go_roundw
          case rel => exact ⟨k', s, rfl, Lib.hid NK.out.1, Lib.hid ⟨NK.out.2.1, NK.out.2.2.1⟩, Lib.hid K.out.1, Lib.hid K.out.2⟩
          case measure => have := NK.out; simp [intOf]; omega
        · have d2 : decide (i < k) = false := by rw [decide_eq_false_iff_not]; exact hlt
          have K : Hid (∃ Z, Z.Perm (X ++ [y]) ∧ Z.Pairwise ltT ∧ OwnT wr base (.slice (some ⟨g, 0, none⟩) N c) (A ++ (Z ++ B)) ∧ RowKit.Below base w wr) := by
            obtain rfl : t = p := by have := HK.out; have := HF.out; have := HT.out; omega
            refine ⟨X.take t ++ y :: X.drop t, (mid_perm t y).trans (List.perm_append_singleton y X).symm, mid_sorted SX.out HL.out.1 HL.out.2, ?_, HB.out⟩
            rw [List.append_assoc, List.cons_append]
            exact HO.out
          clear hlt HO HB HL HK HT
          go_wp2_with fail
          refine bodyPost_ret (results_none rfl _ _ _) rfl ?_
          exact ⟨rfl, K.out⟩
end Go.Proofs.Ytibakhobgfiklaa
