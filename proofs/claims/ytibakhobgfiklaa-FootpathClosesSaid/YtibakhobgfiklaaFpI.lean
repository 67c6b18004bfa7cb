/-
  Insertion sort over a part of a row of footpaths, by the closure that compares them. Condition: rows of at most 100000000 elements.
-/
import Derived.Test.YtibakhobgfiklaaFpX
namespace Go.Proofs.Ytibakhobgfiklaa
open Go.RowKit Go.Sort

/-- The closure that is handed on. -/
abbrev cmpV : Value := .func (.func 47) #[] #[]
abbrev OwnT := OwnQ (Prod.fst : Tg → Fp)
theorem cmp_at (x y : Fp) (w : World) : Calls Try.prog 47 #[fpV x.1 x.2.1 x.2.2.1 x.2.2.2, fpV y.1 y.2.1 y.2.2.1 y.2.2.2] w fun e w' => e = .returned (.int .i64 (cfP x y)) ∧ Below w.heap.size w w' := cmp_any x.1 x.2.1 x.2.2.1 x.2.2.2 y.1 y.2.1 y.2.2.1 y.2.2.2 w
theorem grown_below {base : Nat} {w wr w4 : World} (h : RowKit.Below base w wr) (hs : base ≤ wr.heap.size) (h4 : ∃ p : Regrown, w4 = grow (redrawn wr p.d) p.os) : RowKit.Below base w w4 ∧ RowKit.Below wr.heap.size wr w4 := by
  obtain ⟨p, rfl⟩ := h4
  exact ⟨h.trans ((below_regrown wr p.d p.os).mono hs), below_regrown wr p.d p.os⟩
theorem ins_next {X Z Z1 Z2 : List Tg} {t : Nat} {x : Tg} (hZ : Z1 ++ Z2 = Z) (hp : Z.Perm (X.take t)) (hx : X[t]? = some x) : (Z1 ++ x :: Z2).Perm (X.take (t + 1)) := by
  have ht := (List.getElem?_eq_some_iff.1 hx).1
  rw [List.take_succ_eq_append_getElem ht, (List.getElem?_eq_some_iff.1 hx).2]
  exact ins_perm (by rw [hZ]; exact hp) (rfl : X = X)
theorem ins_tie {X : List Tg} {t : Nat} {x z : Tg} (ho : Opn cfT ltT X) (hx : X[t]? = some x) (hz : z ∈ X.take t) (h : ¬ cfP x.1 z.1 < 0) : ltT z x := by
  have ht := (List.getElem?_eq_some_iff.1 hx).1
  rw [← List.take_append_drop t X, List.drop_eq_getElem_cons ht, (List.getElem?_eq_some_iff.1 hx).2] at ho
  exact ordT.tie h ((List.pairwise_append.1 ho).2.2 z hz x List.mem_cons_self)
set_option maxRecDepth 100000 in
set_option maxHeartbeats 2000000 in
theorem ins_any (base g c N a b : Nat) (A X B : List Tg) (hA : A.length = a) (hX : a + X.length = b) (hN : b + B.length = N) (hN2 : N ≤ 100000000) (ho : Opn cfT ltT X) (w : World)
    (h : OwnT w base (.slice (some ⟨g, 0, none⟩) N c) (A ++ (X ++ B))) (hs : base ≤ w.heap.size) :
    Calls Try.prog 78 #[.slice (some ⟨g, 0, none⟩) N c, .int .i64 (a : Int), .int .i64 (b : Int), cmpV] w fun e w' =>
      e = .returned (.tuple #[]) ∧ ∃ Z, Z.Perm X ∧ Z.Pairwise ltT ∧ OwnT w' base (.slice (some ⟨g, 0, none⟩) N c) (A ++ (Z ++ B)) ∧ Below base w w' := by
  have HS := Lib.hid hs
  have bb : b ≤ 100000000 := by omega
  have HX := Lib.hid hX
  have HA := Lib.hid hA
  have HN := Lib.hid hN
  have HO := Lib.hid ho
  have H0 : Hid (OwnT w base (.slice (some ⟨g, 0, none⟩) N c) (A ++ (X.take 1 ++ (X.drop 1 ++ B)))) := by
    show OwnQ _ _ _ _ _
    rw [← List.append_assoc (X.take 1), List.take_append_drop]
    exact h
  have Z0 : Hid ((X.take 1).Perm (X.take 1) ∧ (X.take 1).Pairwise ltT) := by
    refine ⟨List.Perm.refl _, ?_⟩
    match X with
    | [] => exact List.Pairwise.nil
    | y :: r => exact List.pairwise_singleton _ _
  have ab : a ≤ b := by omega
  clear h hA hX hN ho hs
  go_enter Try.func78, Try.ntmps78
  go_wp2_with fail
  go_loopw [8] (fun i wr => ∃ (t i' : Nat) (Z : List Tg), i = .int .i64 (i' : Int) ∧ Hid (a + t = i') ∧ Hid (1 ≤ t) ∧ i' ≤ b + 1 ∧ Hid (Z.Perm (X.take t) ∧ Z.Pairwise ltT) ∧ Hid (OwnT wr base (.slice (some ⟨g, 0, none⟩) N c) (A ++ (Z ++ (X.drop t ++ B)))) ∧ Hid (Below base w wr)) (fun i _ => b + 1 - (intOf i).toNat)
  case atStart => exact ⟨1, a + 1, _, by go_num, Lib.hid rfl, Lib.hid (Nat.le_refl _), by omega, Z0, H0, Lib.hid (Below.refl _ _)⟩
  case round =>
    clear H0 Z0
    obtain ⟨t, i, Z, rfl, HT, H1, hib, HZ, HR, HB⟩ := hrel
    by_cases hlt : i < b
    · have gi : (i : Int) < (b : Int) := by omega
      have htx : t < X.length := by have := HT.out; have := HX.out; omega
      obtain ⟨x, hx⟩ := at_lt htx
      have HX1 := Lib.hid hx
      have hzl : Z.length = t := by rw [HZ.out.1.length_eq, List.length_take]; omega
      have HZL := Lib.hid hzl
      have hd : X.drop t = x :: X.drop (t + 1) := by rw [List.drop_eq_getElem_cons htx, (List.getElem?_eq_some_iff.1 hx).2]
      have ST : Hid (OwnT wr base (.slice (some ⟨g, 0, none⟩) N c) (A ++ (Z ++ x :: ([] ++ (X.drop (t + 1) ++ B))))) := by
        have := HR.out
        rw [hd] at this
        exact this
      have HIT : Hid (a + Z.length = i) := by have := HT.out; show _ = _; omega
      have bi : i ≤ 100000000 := by omega
      clear hx hzl hd HR htx hlt
      go_wp2_with fail
      go_loopw [9] (fun j wr => ∃ (j' : Nat) (Z1 Z2 : List Tg), j = .int .i64 (j' : Int) ∧ Hid (a + Z1.length = j' ∧ Z1 ++ Z2 = Z ∧ ∀ z ∈ Z2, ltT x z) ∧ Hid (OwnT wr base (.slice (some ⟨g, 0, none⟩) N c) (A ++ (Z1 ++ x :: (Z2 ++ (X.drop (t + 1) ++ B))))) ∧ Hid (Below base w wr)) (fun j _ => (intOf j).toNat)
      case atStart => exact ⟨i, Z, [], rfl, Lib.hid ⟨HIT.out, List.append_nil _, fun z hz => absurd hz List.not_mem_nil⟩, ST, HB⟩
      case round =>
        clear ST HIT HB
        obtain ⟨j, Z1, Z2, rfl, HJ, HR, HB⟩ := hrel
        have EX : ∀ W, OwnT W base (.slice (some ⟨g, 0, none⟩) N c) (A ++ (Z1 ++ x :: (Z2 ++ (X.drop (t + 1) ++ B)))) → OwnT W base (.slice (some ⟨g, 0, none⟩) N c) (A ++ ((Z1 ++ x :: Z2) ++ (X.drop (t + 1) ++ B))) := by
          intro W hW
          rw [List.append_assoc, List.cons_append]
          exact hW
        have EX := Lib.hid EX
        have PX : Hid ((Z1 ++ x :: Z2).Perm (X.take (t + 1))) := ins_next HJ.out.2.1 HZ.out.1 HX1.out
        have TX : Hid (a + (t + 1) = i + 1) := by have := HT.out; show _ = _; omega
        by_cases hja : a < j
        · have gj : (a : Int) < (j : Int) := by omega
          have hz1 : Z1 ≠ [] := by
            intro e
            have := HJ.out.1
            rw [e] at this
            simp at this
            omega
          obtain ⟨P, z, hP⟩ : ∃ P z, Z1 = P ++ [z] := ⟨Z1.dropLast, Z1.getLast hz1, (List.dropLast_concat_getLast hz1).symm⟩
          obtain ⟨q, hq⟩ : ∃ q, j = q + 1 := ⟨j - 1, by omega⟩
          have hPl : A.length + P.length = q := by
            have := HJ.out.1
            have := HA.out
            rw [hP] at *
            simp at *
            omega
          have hjN : j < N := by
            have h1 := congrArg List.length HJ.out.2.1
            have h2 := HJ.out.1
            have h3 := HZL.out
            have h4 := HT.out
            have h5 := HN.out
            rw [List.length_append] at h1
            omega
          have S := HR.out
          rw [hP, List.append_assoc, List.singleton_append, ← List.append_assoc] at S
          obtain ⟨a1, a2, a3⟩ := swp_down (A ++ P) (Z2 ++ (X.drop (t + 1) ++ B)) z x (i := q) (j := j) (by rw [List.length_append]; omega) (by rw [List.length_append]; omega)
          have hl : ((A ++ P) ++ z :: x :: (Z2 ++ (X.drop (t + 1) ++ B))).length = N := by
            have := S.1
            rcases OwnG.low S with ⟨h0, -⟩ | ⟨g', c', h0, -⟩
            · cases h0
            · cases h0; rfl
          obtain ⟨y0, y1, y2, y3, -⟩ := OwnQ.at hl S a1
          obtain ⟨x0, x1, x2, x3, -⟩ := OwnQ.at hl S a2
          have X0 := fun d os => cell_regrown x0 d os
          have X1 := fun d os => cell_regrown x1 d os
          have X2 := fun d os => cell_regrown x2 d os
          have X3 := fun d os => cell_regrown x3 d os
          have Y0 := fun d os => cell_regrown y0 d os
          have Y1 := fun d os => cell_regrown y1 d os
          have Y2 := fun d os => cell_regrown y2 d os
          have Y3 := fun d os => cell_regrown y3 d os
          have wj : IntKind.i64.wrap ((j : Int) - 1) = (q : Int) := by rw [IntKind.wrap_i64]; omega
          have ej : (j : Int) - 1 = (q : Int) := by omega
          have gjN : (j : Int) < (N : Int) := by omega
          have gqN : (q : Int) < (N : Int) := by omega
          have D := Lib.hid (fun d os => Calls.regrown_of (w := wr) (d := d) (os := os) (cmp_at x.1 z.1 _))
          have HSW : Hid (base ≤ wr.heap.size) := Nat.le_trans HS.out HB.out.size
          have HP := Lib.hid hP
          have HQ := Lib.hid hq
          have HPl := Lib.hid hPl
          have HH := Lib.hid (And.intro S (And.intro a1 (And.intro a2 a3)))
          have HL := Lib.hid hl
          obtain ⟨r, hr⟩ : ∃ r, cfP x.1 z.1 = r := ⟨_, rfl⟩
          rw [hr] at D
          have HR' := Lib.hid hr
          clear S a1 a2 a3 hl y0 y1 y2 y3 x0 x1 x2 x3 hP hPl hz1 hr hq HR
          have gx0 := (rfl : fpV x.1.1 x.1.2.1 x.1.2.2.1 x.1.2.2.2 = fpV x.1.1 x.1.2.1 x.1.2.2.1 x.1.2.2.2)
          clear gx0
          by_cases hr0 : r < 0
          · go_wp2_with fail
            refine wp_region_quiet_below (by kernel_rfl) (by kernel_rfl) ?_
            repeat (go_big_quiet_step (with_reducible exact D.out _ _))
            refine wpQuiet_nil ?_
            intro w4 hw4
            obtain ⟨b4, c4⟩ := grown_below HB.out HSW.out hw4
            have S4 := HH.out.1.below c4
            obtain ⟨y0, y1, y2, y3, s0, s1, s2, s3⟩ := OwnQ.at HL.out S4 HH.out.2.1
            obtain ⟨x0, x1, x2, x3, r0, r1, r2, r3⟩ := OwnQ.at HL.out S4 HH.out.2.2.1
            have K0 := OwnQ.two HL.out S4 b4 (i := j) (j := q) hjN (by have := HQ.out; omega) x z
            rw [HH.out.2.2.2] at K0
            unfold put4 at K0
            have K := Lib.hid K0
            have NJ : Hid (a + P.length = q ∧ P ++ (z :: Z2) = Z ∧ ∀ y ∈ z :: Z2, ltT x y) := by
              refine ⟨by have := HPl.out; have := HA.out; omega, ?_, fun y hy => ?_⟩
              · have := HJ.out.2.1
                rw [HP.out, List.append_assoc] at this
                exact this
              · rcases List.mem_cons.1 hy with rfl | hy
                · exact ordT.less (by show cfP x.1 y.1 < 0; rw [HR'.out]; exact hr0)
                · exact HJ.out.2.2 y hy
            have MQ : Hid (q < j) := by have := HQ.out; show _ < _; omega
            clear hw4 b4 c4 S4 K0 D HB HJ EX PX TX X0 X1 X2 X3 Y0 Y1 Y2 Y3 hr0
            go_wp2_with fail
            go_region
            go_wp2_with fail
            go_roundw
            case rel =>
              refine ⟨q, P, z :: Z2, rfl, NJ, ?_, Lib.hid K.out.2⟩
              have := K.out.1
              rw [List.append_assoc] at this
              exact this
            case measure => have := MQ.out; simp [intOf]; omega
          · have d0 : decide (r < 0) = false := decide_eq_false hr0
            have SX : Hid ((Z1 ++ x :: Z2).Pairwise ltT) := by
              refine ins_sorted ordT (by rw [HJ.out.2.1]; exact HZ.out.2) (.inr ⟨P, z, HP.out, ?_⟩) HJ.out.2.2
              refine ins_tie HO.out HX1.out ?_ (by rw [HR'.out]; exact hr0)
              refine HZ.out.1.mem_iff.1 ?_
              rw [← HJ.out.2.1, HP.out]
              simp
            go_wp2_with fail
            refine wp_region_quiet_below (by kernel_rfl) (by kernel_rfl) ?_
            repeat (go_big_quiet_step (with_reducible exact D.out _ _))
            refine wpQuiet_nil ?_
            intro w4 hw4
            obtain ⟨b4, c4⟩ := grown_below HB.out HSW.out hw4
            have R4 : Hid (OwnT w4 base (.slice (some ⟨g, 0, none⟩) N c) (A ++ ((Z1 ++ x :: Z2) ++ (X.drop (t + 1) ++ B)))) := by
              refine EX.out w4 ?_
              have := HH.out.1.below c4
              rw [List.append_assoc] at this
              rw [HP.out, List.append_assoc]
              exact this
            have B4 := Lib.hid b4
            clear hw4 b4 c4 D HB HJ EX X0 X1 X2 X3 Y0 Y1 Y2 Y3 hr0 d0
            go_wp2_with fail
            go_roundw
            case rel => exact ⟨t + 1, i + 1, _, by go_num, TX, Lib.hid (Nat.le_add_left _ _), by omega, Lib.hid ⟨PX.out, SX.out⟩, R4, B4⟩
            case measure => simp [intOf]; omega
        · have d : decide (a < j) = false := by rw [decide_eq_false_iff_not]; omega
          have hz1 : Z1 = [] := List.length_eq_zero_iff.1 (by have := HJ.out.1; omega)
          have SX : Hid ((Z1 ++ x :: Z2).Pairwise ltT) := ins_sorted ordT (by rw [HJ.out.2.1]; exact HZ.out.2) (.inl hz1) HJ.out.2.2
          have R4 := fun W (hc : RowKit.Below wr.heap.size wr W) => EX.out W (HR.out.below hc)
          have HSW : Hid (base ≤ wr.heap.size) := Nat.le_trans HS.out HB.out.size
          have R4 := Lib.hid R4
          clear hja hz1 HR HJ EX
          go_wp2_with fail
          refine wp_region_quiet_below (by kernel_rfl) (by kernel_rfl) ?_
          repeat (go_big_quiet_step (fail))
          refine wpQuiet_nil ?_
          intro w4 hw4
          obtain ⟨b4, c4⟩ := grown_below HB.out HSW.out hw4
          have R5 := Lib.hid (R4.out w4 c4)
          have B4 := Lib.hid b4
          clear hw4 b4 c4 HB R4 d
          go_wp2_with fail
          go_roundw
          case rel => exact ⟨t + 1, i + 1, _, by go_num, TX, Lib.hid (Nat.le_add_left _ _), by omega, Lib.hid ⟨PX.out, SX.out⟩, R5, B4⟩
          case measure => simp [intOf]; omega
    · have d : decide (i < b) = false := by rw [decide_eq_false_iff_not]; omega
      have K : Hid (∃ Z, Z.Perm X ∧ Z.Pairwise ltT ∧ OwnT wr base (.slice (some ⟨g, 0, none⟩) N c) (A ++ (Z ++ B)) ∧ RowKit.Below base w wr) := by
        have htx : X.length ≤ t := by have := HT.out; have := HX.out; omega
        have h1 := HZ.out.1
        have h2 := HR.out
        rw [List.take_of_length_le htx] at h1
        rw [List.drop_eq_nil_of_le htx, List.nil_append] at h2
        exact ⟨Z, h1, HZ.out.2, h2, HB.out⟩
      clear hlt HR HB HZ
      go_wp2_with fail
      go_end0
      exact ⟨rfl, K.out⟩
end Go.Proofs.Ytibakhobgfiklaa
