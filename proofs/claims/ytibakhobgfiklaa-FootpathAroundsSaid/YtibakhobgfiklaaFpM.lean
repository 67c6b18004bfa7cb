/-
  Two sorted parts of a row of footpaths merged in place where one of them is a single element. Condition: rows of at most 100000000 elements.
-/
import Derived.Test.YtibakhobgfiklaaFpI
namespace Go.Proofs.Ytibakhobgfiklaa
open Go.RowKit Go.Sort

theorem own_len {α : Type} {pr : α → Fp} {w : World} {base g c n : Nat} {l : List α} (h : OwnQ pr w base (.slice (some ⟨g, 0, none⟩) n c) l) : l.length = n := by
  rcases OwnG.low h with ⟨h0, -⟩ | ⟨g', c', h0, -⟩
  · cases h0
  · cases h0; rfl
/-- The cells of an element, in every world that grows out of this one. -/
theorem cells_grown {w : World} {base g c n : Nat} {l : List Tg} (h : OwnT w base (.slice (some ⟨g, 0, none⟩) n c) l) {i : Nat} {x : Tg} (hx : l[i]? = some x) :
    (∀ d os, (grow (redrawn w d) os).cell? ⟨g, i * 4, none⟩ = some (.int .i64 x.1.1)) ∧ (∀ d os, (grow (redrawn w d) os).cell? ⟨g, i * 4 + 1, none⟩ = some (.int .i64 x.1.2.1)) ∧
      (∀ d os, (grow (redrawn w d) os).cell? ⟨g, i * 4 + 2, none⟩ = some (.int .i64 x.1.2.2.1)) ∧ (∀ d os, (grow (redrawn w d) os).cell? ⟨g, i * 4 + 3, none⟩ = some (.bool x.1.2.2.2)) := by
  obtain ⟨x0, x1, x2, x3, -⟩ := OwnQ.at (own_len h) h hx
  exact ⟨fun d os => cell_regrown x0 d os, fun d os => cell_regrown x1 d os, fun d os => cell_regrown x2 d os, fun d os => cell_regrown x3 d os⟩
theorem seg_x {α : Type} {A X R : List α} {a t i : Nat} (hA : A.length = a) (ht : t < X.length) (hi : a + t = i) : (A ++ (X ++ R))[i]? = X[t]? := by
  rw [List.getElem?_append_right (by omega), List.getElem?_append_left (by omega), hA, show i - a = t by omega]
theorem seg_y {α : Type} {A X Y R : List α} {a m t i : Nat} (hA : A.length = a) (hX : a + X.length = m) (ht : t < Y.length) (hi : m + t = i) : (A ++ (X ++ (Y ++ R)))[i]? = Y[t]? := by
  rw [List.getElem?_append_right (by omega), List.getElem?_append_right (by omega), List.getElem?_append_left (by omega), hA, show i - a - X.length = t by omega]
set_option maxRecDepth 100000 in
set_option maxHeartbeats 2000000 in
theorem sym_one (base g c N a m b : Nat) (A Y B : List Tg) (x : Tg) (hA : A.length = a) (hX : a + 1 = m) (hY : m + Y.length = b) (hN : b + B.length = N) (hN2 : N ≤ 100000000) (sY : Y.Pairwise ltT) (cr : Crs cfT ltT [x] Y) (w : World)
    (h : OwnT w base (.slice (some ⟨g, 0, none⟩) N c) (A ++ ([x] ++ (Y ++ B)))) (hs : base ≤ w.heap.size) :
    Calls Try.prog 79 #[.slice (some ⟨g, 0, none⟩) N c, .int .i64 (a : Int), .int .i64 (m : Int), .int .i64 (b : Int), cmpV] w fun e w' =>
      e = .returned (.tuple #[]) ∧ ∃ Z, Z.Perm ([x] ++ Y) ∧ Z.Pairwise ltT ∧ OwnT w' base (.slice (some ⟨g, 0, none⟩) N c) (A ++ (Z ++ B)) ∧ RowKit.Below base w w' := by
  have HS := Lib.hid hs
  have H := Lib.hid h
  have HX := Lib.hid hX
  have HA := Lib.hid hA
  have HY := Lib.hid hY
  have HN := Lib.hid hN
  have SY := Lib.hid sY
  have CR := Lib.hid cr
  have e0 : (m : Int) - (a : Int) = 1 := by omega
  have bb : b ≤ 100000000 := by omega
  have bm : m ≤ 100000000 := by omega
  have ba : a < N := by omega
  have bN : b ≤ N := by omega
  clear h hs hA hY sY cr hX hN
  go_enter Try.func79, Try.ntmps79
  go_wp2_with fail
  clear e0
  go_loopw [10, 11] (fun i j wr => ∃ (i' j' p q : Nat), i = .int .i64 (i' : Int) ∧ j = .int .i64 (j' : Int) ∧ Hid (m + p = i' ∧ m + q = j' ∧ p ≤ q ∧ q ≤ Y.length) ∧ Hid ((∀ y ∈ Y.take p, ltT y x) ∧ (∀ y ∈ Y.drop q, ltT x y)) ∧ Hid (OwnT wr base (.slice (some ⟨g, 0, none⟩) N c) (A ++ ([x] ++ (Y ++ B)))) ∧ Hid (RowKit.Below base w wr)) (fun i j _ => (intOf j).toNat - (intOf i).toNat)
  case atStart =>
    refine ⟨m, b, 0, Y.length, rfl, rfl, Lib.hid ⟨rfl, HY.out, Nat.zero_le _, Nat.le_refl _⟩, Lib.hid ⟨fun y hy => ?_, fun y hy => ?_⟩, H, Lib.hid (RowKit.Below.refl _ _)⟩
    · simp at hy
    · simp at hy
  case round =>
    clear H
    obtain ⟨i, j, p, q, rfl, rfl, HI, HL, HO, HB⟩ := hrel
    obtain ⟨i1, i2, i3, i4⟩ := HI.out
    have HSW : Hid (base ≤ wr.heap.size) := Nat.le_trans HS.out HB.out.size
    have bj : j ≤ b := by have := HY.out; omega
    by_cases hlt : i < j
    · have gi : (i : Int) < (j : Int) := by omega
      obtain ⟨k, hk⟩ : ∃ k, (i + j) / 2 = k := ⟨_, rfl⟩
      have ek : ((i : Int) + (j : Int)) / 2 = (k : Int) := by omega
      have k1 : i ≤ k := by omega
      have k2 : k < j := by omega
      obtain ⟨t, ht⟩ : ∃ t, k - m = t := ⟨_, rfl⟩
      have htl : t < Y.length := by omega
      obtain ⟨y, hy⟩ := at_lt htl
      have a1 := (seg_y (X := [x]) (R := B) HA.out HX.out htl (show m + t = k by omega)).trans hy
      have a2 : (A ++ ([x] ++ (Y ++ B)))[a]? = some x := seg_x (t := 0) HA.out (by simp) (by omega)
      obtain ⟨Y0, Y1, Y2, Y3⟩ := cells_grown HO.out a1
      obtain ⟨X0, X1, X2, X3⟩ := cells_grown HO.out a2
      have D := Lib.hid (fun d os => Calls.regrown_of (w := wr) (d := d) (os := os) (cmp_at y.1 x.1 _))
      have gk : (k : Int) < (N : Int) := by omega
      have ga : (a : Int) < (N : Int) := by omega
      obtain ⟨r, hr⟩ : ∃ r, cfP y.1 x.1 = r := ⟨_, rfl⟩
      rw [hr] at D
      have HY1 := Lib.hid hy
      have MK : Hid (i ≤ k ∧ k < j) := Lib.hid ⟨k1, k2⟩
      have bj : k + 1 ≤ 100000000 := by omega
      by_cases hr0 : r < 0
      · have NI : Hid (m + (t + 1) = k + 1 ∧ m + q = j ∧ t + 1 ≤ q ∧ q ≤ Y.length) := by refine ⟨?_, ?_, ?_, ?_⟩ <;> omega
        have NL : Hid ((∀ z ∈ Y.take (t + 1), ltT z x) ∧ (∀ z ∈ Y.drop q, ltT x z)) := Lib.hid ⟨low_take ordT SY.out hy (ordT.less (by show cfP y.1 x.1 < 0; rw [hr]; exact hr0)), HL.out.2⟩
        clear i1 i2 i3 i4 hr hy ht htl a1 a2 hlt k1 k2 HL HI
        go_wp2_with fail
        refine wp_region_quiet_below (by kernel_rfl) (by kernel_rfl) ?_
        repeat (go_big_quiet_step (with_reducible exact D.out _ _))
        refine wpQuiet_nil ?_
        intro w4 hw4
        obtain ⟨b4, c4⟩ := grown_below HB.out HSW.out hw4
        have O4 := Lib.hid (HO.out.below c4)
        have B4 := Lib.hid b4
        clear hw4 b4 c4 D HB HO X0 X1 X2 X3 Y0 Y1 Y2 Y3 hr0 ek
        go_wp2_with fail
        go_roundw
        case rel => exact ⟨k + 1, j, t + 1, q, by go_num, rfl, NI, NL, O4, B4⟩
        case measure => have := MK.out; simp [intOf]; omega
      · have d0 : decide (r < 0) = false := decide_eq_false hr0
        have NI : Hid (m + p = i ∧ m + t = k ∧ p ≤ t ∧ t ≤ Y.length) := by refine ⟨?_, ?_, ?_, ?_⟩ <;> omega
        have NL : Hid ((∀ z ∈ Y.take p, ltT z x) ∧ (∀ z ∈ Y.drop t, ltT x z)) := Lib.hid ⟨HL.out.1, high_drop ordT SY.out hy (ordT.tie (by show ¬ cfP y.1 x.1 < 0; rw [hr]; exact hr0) (CR.out x (by simp) y (List.mem_iff_getElem?.2 ⟨t, hy⟩)))⟩
        clear i1 i2 i3 i4 hr hy ht htl a1 a2 hlt k1 k2 HL HI hr0
        go_wp2_with fail
        refine wp_region_quiet_below (by kernel_rfl) (by kernel_rfl) ?_
        repeat (go_big_quiet_step (with_reducible exact D.out _ _))
        refine wpQuiet_nil ?_
        intro w4 hw4
        obtain ⟨b4, c4⟩ := grown_below HB.out HSW.out hw4
        have O4 := Lib.hid (HO.out.below c4)
        have B4 := Lib.hid b4
        clear hw4 b4 c4 D HB HO X0 X1 X2 X3 Y0 Y1 Y2 Y3 d0 ek
        go_wp2_with fail
        go_roundw
        case rel => exact ⟨i, k, p, t, rfl, rfl, NI, NL, O4, B4⟩
        case measure => have := MK.out; simp [intOf]; omega
    · have d : decide (i < j) = false := by rw [decide_eq_false_iff_not]; exact hlt
      obtain rfl : p = q := by omega
      have e1 : (i : Int) - 1 = ((a + p : Nat) : Int) := by have := HX.out; omega
      obtain ⟨f, hf⟩ : ∃ f, a + p = f := ⟨_, rfl⟩
      rw [hf] at e1
      have HF := Lib.hid hf
      have bf : f ≤ 100000000 := by have := HX.out; omega
      have HP : Hid (p ≤ Y.length) := Lib.hid i4
      have S0 : Hid (OwnT wr base (.slice (some ⟨g, 0, none⟩) N c) (A ++ (Y.take 0 ++ x :: (Y.drop 0 ++ B)))) := Lib.hid HO.out
      clear hlt i1 i2 i3 i4 hf HI HO bj
      go_wp2_with fail
      go_loopw [13] (fun k wr => ∃ k' t : Nat, k = .int .i64 (k' : Int) ∧ Hid (a + t = k') ∧ Hid (t ≤ p) ∧ Hid (OwnT wr base (.slice (some ⟨g, 0, none⟩) N c) (A ++ (Y.take t ++ x :: (Y.drop t ++ B)))) ∧ Hid (RowKit.Below base w wr)) (fun k _ => f - (intOf k).toNat)
      case atStart => exact ⟨a, 0, rfl, Lib.hid rfl, Lib.hid (Nat.zero_le _), S0, HB⟩
      case round =>
        clear S0 HB HSW
        obtain ⟨k, t, rfl, HK, HT, HO, HB⟩ := hrel
        by_cases hlt : k < f
        · have gi : (k : Int) < (f : Int) := by omega
          have htl : t < Y.length := by have := HK.out; have := HF.out; have := HP.out; omega
          obtain ⟨y, hy⟩ := at_lt htl
          have dy : Y.drop t = y :: Y.drop (t + 1) := by rw [List.drop_eq_getElem_cons htl, (List.getElem?_eq_some_iff.1 hy).2]
          have ty : Y.take (t + 1) = Y.take t ++ [y] := by rw [List.take_succ_eq_append_getElem htl, (List.getElem?_eq_some_iff.1 hy).2]
          have S := HO.out
          rw [dy, List.cons_append, ← List.append_assoc] at S
          obtain ⟨a1, a2, a3⟩ := swp_up (A ++ Y.take t) (Y.drop (t + 1) ++ B) x y (i := k) (j := k + 1) (by have := HA.out; have := HK.out; rw [List.length_append, List.length_take]; omega) (by have := HA.out; have := HK.out; rw [List.length_append, List.length_take]; omega)
          have hl := own_len S
          have hkN : k + 1 < N := by
            have := (List.getElem?_eq_some_iff.1 a2).1
            omega
          obtain ⟨x0, x1, x2, x3, r0, r1, r2, r3⟩ := OwnQ.at hl S a1
          obtain ⟨y0, y1, y2, y3, s0, s1, s2, s3⟩ := OwnQ.at hl S a2
          have K0 := OwnQ.two hl S HB.out (i := k) (j := k + 1) (by omega) hkN x y
          rw [a3] at K0
          obtain ⟨k', hk'⟩ : ∃ k', k + 1 = k' := ⟨_, rfl⟩
          rw [hk'] at K0 y0 y1 y2 y3 s0 s1 s2 s3
          unfold put4 at K0
          have le : (A ++ Y.take t) ++ y :: x :: (Y.drop (t + 1) ++ B) = A ++ (Y.take (t + 1) ++ x :: (Y.drop (t + 1) ++ B)) := by
            rw [ty]
            simp only [List.append_assoc, List.cons_append, List.nil_append]
          rw [le] at K0
          have K := Lib.hid K0
          have wk : IntKind.i64.wrap ((k : Int) + 1) = (k' : Int) := by rw [IntKind.wrap_i64]; omega
          have ek : (k : Int) + 1 = (k' : Int) := by omega
          have gk : (k : Int) < (N : Int) := by omega
          have gk' : (k' : Int) < (N : Int) := by omega
          have NK : Hid (a + (t + 1) = k' ∧ t + 1 ≤ p ∧ k < k') := by
            have := HK.out; have := HF.out
            refine ⟨?_, ?_, ?_⟩ <;> omega
          clear hk' K0 le S a1 a2 a3 hl hy dy ty HB HO HK HT htl hkN
          go_wp2_with fail
          go_region
          go_wp2_with fail
          go_roundw
          case rel => exact ⟨k', t + 1, rfl, Lib.hid NK.out.1, Lib.hid NK.out.2.1, Lib.hid K.out.1, Lib.hid K.out.2⟩
          case measure => have := NK.out; simp [intOf]; omega
        · have d2 : decide (k < f) = false := by rw [decide_eq_false_iff_not]; exact hlt
          have K : Hid (∃ Z, Z.Perm ([x] ++ Y) ∧ Z.Pairwise ltT ∧ OwnT wr base (.slice (some ⟨g, 0, none⟩) N c) (A ++ (Z ++ B)) ∧ RowKit.Below base w wr) := by
            obtain rfl : t = p := by have := HK.out; have := HF.out; have := HT.out; omega
            refine ⟨Y.take t ++ x :: Y.drop t, mid_perm t x, mid_sorted SY.out HL.out.1 HL.out.2, ?_, HB.out⟩
            rw [List.append_assoc, List.cons_append]
            exact HO.out
          clear hlt HO HB HL HK HT
          go_wp2_with fail
          refine bodyPost_ret (results_none rfl _ _ _) rfl ?_
          exact ⟨rfl, K.out⟩
end Go.Proofs.Ytibakhobgfiklaa
