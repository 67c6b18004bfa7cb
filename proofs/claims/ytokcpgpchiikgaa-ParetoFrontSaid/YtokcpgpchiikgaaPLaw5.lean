/-
  The law ParetoFront: true for every input, nothing that existed has changed. Condition: none.
-/
import Derived.Test.YtokcpgpchiikgaaPLaw4
namespace Go.Proofs.Ytokcpgpchiikgaa
open Go.RowKit Go.Sort

/-- Whether y is among the first k. -/
def InTo (l : List Vec) (y : Vec) (k : Nat) (q : Bool) : Prop := q = true ↔ y ∈ l.take k
theorem InTo.next {l : List Vec} {y x : Vec} {k : Nat} {q : Bool} (h : InTo l y k q) (hx : l[k]? = some x) : InTo l y (k + 1) (q || decide (x = y)) := by
  unfold InTo at *
  rw [take_mem hx, Bool.or_eq_true, h, decide_eq_true_iff]
  constructor
  · rintro (a | a)
    · exact .inl a
    · exact .inr a.symm
  · rintro (a | a)
    · exact .inl a
    · exact .inr a.symm
set_option maxRecDepth 100000 in
set_option maxHeartbeats 32000000 in
theorem front_law (v : Value) (l : List Vec) (_ : l.length ≤ 9223372036854775807) (w : World) (h : LstV w v l) : Calls Try.prog 7 #[v] w fun e w' => e = .returned (.bool true) ∧ Below w.heap.size w w' := by
  have hh := h
  obtain ⟨A, c, rfl, -⟩ := hh
  have La := Lib.hid h
  clear h
  by_cases h1 : (60 : Int) < (l.length : Int)
  · clear La
    go_enter Try.func7, Try.ntmps7
    go_wp2_with fail
    refine (ex_any _).mono ?_
    rintro e w1 ⟨rfl, b1⟩
    have BB := Lib.hid (b1)
    clear b1
    go_wp2_with fail
    go_ret
    exact ⟨rfl, BB.out⟩
  have hl : l.length ≤ 60 := by omega
  have d1 : decide ((60 : Int) < (l.length : Int)) = false := decide_eq_false h1
  clear h1
  have hfl := frV_len l
  have FS := Lib.hid (frV_spec l)
  have FA := Lib.hid (fun v w h => front_any v l (by omega) w h)
  have FR := Lib.hid (fun v w h => front_any v l.reverse (by rw [List.length_reverse]; omega) w h)
  have FF := Lib.hid (fun v w h => front_any v (frV l) (by omega) w h)
  have IF := Lib.hid (fun v w h => isfront_any v (frV l) (by omega) w h)
  rw [frV_rev] at FR
  rw [frV_self] at FF
  rw [frV_self, decide_eq_true rfl] at IF
  have CF := Lib.hid (fun (x : Vec) (hx : x ∈ l) v w h => (show Calls _ _ _ w fun e w' => e = .returned (.bool true) ∧ RowKit.Below w.heap.size w w' from by
    have k := covers_any v (frV l) x (by omega) w h
    rw [cov_front, (cov_iff l x).2 ⟨x, hx, wi_refl x⟩] at k
    exact k))
  generalize frV l = F at FS FA FR FF IF CF hfl
  go_enter Try.func7, Try.ntmps7
  go_wp2_with fail
  refine (from_any _ l (by omega) w La.out).mono ?_
  rintro e w1 ⟨v_x, rfl, l_x, b1⟩
  have Lx := Lib.hid l_x
  have BB1 := Lib.hid (b1)
  clear l_x b1 La
  go_wp2_with fail
  refine (FA.out _ w1 Lx.out).mono ?_
  rintro e w2 ⟨v_f, rfl, l_f, b2⟩
  have Lx := Lib.hid (Lx.out.below b2)
  have Lf := Lib.hid l_f
  have BB2 := Lib.hid (BB1.out.trans (b2.mono BB1.out.size))
  clear l_f b2 BB1
  have hh := Lx.out
  obtain ⟨X, cx, rfl, -⟩ := hh
  have hh := Lf.out
  obtain ⟨Y, cy, rfl, -⟩ := hh
  have gq := gq_pv
  go_wp2_with fail
  go_loopw [5] (fun i wr => ∃ m : Nat, i = .int .i64 (m : Int) ∧ m ≤ F.length ∧ Hid (RowKit.Below w2.heap.size w2 wr)) (fun i _ => F.length - (intOf i).toNat)
  case atStart => exact ⟨0, rfl, Nat.zero_le _, Lib.hid (RowKit.Below.refl _ _)⟩
  case round =>
    obtain ⟨m, rfl, hm, HB⟩ := hrel
    by_cases hlt : m < F.length
    · obtain ⟨y, hy⟩ := at_lt hlt
      have HY := Lib.hid hy
      have gm : (m : Int) < (F.length : Int) := by omega
      have YF := Lib.hid (List.mem_iff_getElem?.2 ⟨m, hy⟩)
      clear hy
      go_wp2_with fail
      go_loopw [6, 7] (fun u j W => ∃ (k : Nat) (q : Bool), j = .int .i64 (k : Int) ∧ u = .bool q ∧ k ≤ l.length ∧ Hid (InTo l y k q) ∧ Hid (RowKit.Below w2.heap.size w2 W)) (fun _ j _ => l.length - (intOf j).toNat)
      case atStart => exact ⟨0, false, rfl, rfl, Nat.zero_le _, (Lib.hid ⟨(fun h => by cases h), (fun h => by simp at h)⟩ : Hid (InTo l y 0 false)), HB⟩
      case round =>
        clear HB
        obtain ⟨k, q, rfl, rfl, hk, HI, H2⟩ := hrel
        by_cases hlk : k < l.length
        · obtain ⟨x, hx⟩ := at_lt hlk
          have gk : (k : Int) < (l.length : Int) := by omega
          have N := Lib.hid (HI.out.next hx)
          obtain ⟨b, o, hbo, hb, m0, m1, m2, m3⟩ := v_at (Lx.out.below H2.out) hx
          subst hbo
          obtain ⟨p, r, hpr, hp, n0, n1, n2, n3⟩ := v_at (Lf.out.below H2.out) HY.out
          subst hpr
          clear HI hx hb hp
          cases q
          · by_cases e : x = y
            · have EQ := eql_is Try.underlying23 (decide_eq_true e)
              have N2 : Hid (InTo l y (k + 1) true) := by
                have := N.out
                rw [decide_eq_true e, Bool.or_true] at this
                exact this
              clear N e
              go_wp2_with fail
              go_quiet (fail)
              have B2 := Lib.hid (below_drewN H2.out nq)
              clear m0 m1 m2 m3 n0 n1 n2 n3 H2
              generalize wr.drewN nq = w4 at B2 ⊢
              go_wp2_with fail
              go_roundw
              case rel => exact ⟨k + 1, true, by go_num, rfl, by omega, N2, B2⟩
              case measure => simp [intOf]; omega
            · have EQ := eql_is Try.underlying23 (decide_eq_false e)
              have N2 : Hid (InTo l y (k + 1) false) := by
                have := N.out
                rw [decide_eq_false e, Bool.or_false] at this
                exact this
              clear N e
              go_wp2_with fail
              go_quiet (fail)
              have B2 := Lib.hid (below_drewN H2.out nq)
              clear m0 m1 m2 m3 n0 n1 n2 n3 H2
              generalize wr.drewN nq = w4 at B2 ⊢
              go_wp2_with fail
              go_roundw
              case rel => exact ⟨k + 1, false, by go_num, rfl, by omega, N2, B2⟩
              case measure => simp [intOf]; omega
          · have N2 : Hid (InTo l y (k + 1) true) := by
              have := N.out
              rw [Bool.true_or] at this
              exact this
            clear N
            go_wp2_with fail
            go_quiet (fail)
            have B2 := Lib.hid (below_drewN H2.out nq)
            clear m0 m1 m2 m3 n0 n1 n2 n3 H2
            generalize wr.drewN nq = w4 at B2 ⊢
            go_wp2_with fail
            go_roundw
            case rel => exact ⟨k + 1, true, by go_num, rfl, by omega, N2, B2⟩
            case measure => simp [intOf]; omega
        · have dk : decide (k < l.length) = false := by rw [decide_eq_false_iff_not]; exact hlk
          obtain rfl : q = true := by
            refine HI.out.2 ?_
            rw [List.take_of_length_le (by omega)]
            exact FS.out.sub y YF.out
          obtain ⟨p, r, hpr, hp, n0, n1, n2, n3⟩ := v_at (Lf.out.below H2.out) HY.out
          subst hpr
          have N0 := fun d os => cell_regrown n0 d os
          have N1 := fun d os => cell_regrown n1 d os
          have N2 := fun d os => cell_regrown n2 d os
          have N3 := fun d os => cell_regrown n3 d os
          clear hlk HI n0 n1 n2 n3 hp
          by_cases hm0 : m = 0
          · have g0 : decide (0 < m) = false := decide_eq_false (by omega)
            clear hm0
            go_wp2_with fail
            refine wp_region_quiet_below (by kernel_rfl) (by kernel_rfl) ?_
            repeat (go_big_quiet_step (fail))
            refine wpQuiet_nil ?_
            intro w4 hw4
            have B4 := Lib.hid (regrown_below H2.out hw4)
            clear hw4 H2 N0 N1 N2 N3
            go_wp2_with fail
            go_loopw [8] (fun j W => ∃ k : Nat, j = .int .i64 (k : Int) ∧ k ≤ F.length ∧ Hid (RowKit.Below w2.heap.size w2 W)) (fun j _ => F.length - (intOf j).toNat)
            case atStart => exact ⟨0, rfl, Nat.zero_le _, B4⟩
            case round =>
              clear B4
              obtain ⟨t, rfl, ht, H3⟩ := hrel
              by_cases htl : t < F.length
              · obtain ⟨z, hz⟩ := at_lt htl
                have gt : (t : Int) < (F.length : Int) := by omega
                obtain ⟨b', o', hbo, hb', m0, m1, m2, m3⟩ := v_at (Lf.out.below H3.out) hz
                cases hbo
                obtain ⟨b', o', hbo, hb'', n0, n1, n2, n3⟩ := v_at (Lf.out.below H3.out) HY.out
                cases hbo
                have M0 := fun d os => cell_regrown m0 d os
                have M1 := fun d os => cell_regrown m1 d os
                have M2 := fun d os => cell_regrown m2 d os
                have M3 := fun d os => cell_regrown m3 d os
                have N0 := fun d os => cell_regrown n0 d os
                have N1 := fun d os => cell_regrown n1 d os
                have N2 := fun d os => cell_regrown n2 d os
                have N3 := fun d os => cell_regrown n3 d os
                have hnd : dom y z = false := FS.out.best z (List.mem_iff_getElem?.2 ⟨t, hz⟩) y (FS.out.sub y YF.out)
                have D := Lib.hid (fun d os => Calls.regrown_of (w := wr) (d := d) (os := os) (dom_any y z _))
                rw [hnd] at D
                clear hz m0 m1 m2 m3 n0 n1 n2 n3 hb' hb'' hnd
                go_wp2_with fail
                refine wp_region_quiet_below (by kernel_rfl) (by kernel_rfl) ?_
                repeat (go_big_quiet_step (with_reducible exact D.out _ _))
                refine wpQuiet_nil ?_
                intro w5 hw5
                have B5 := Lib.hid (regrown_below H3.out hw5)
                clear hw5 H3 M0 M1 M2 M3 N0 N1 N2 N3 D
                go_wp2_with fail
                go_roundw
                case rel => exact ⟨t + 1, by go_num, by omega, B5⟩
                case measure => simp [intOf]; omega
              · have dt : decide (t < F.length) = false := by rw [decide_eq_false_iff_not]; exact htl
                clear htl
                go_wp2_with fail
                go_roundw
                case rel => exact ⟨m + 1, by go_num, by omega, H3⟩
                case measure => simp [intOf]; omega
          · obtain ⟨z, hz⟩ := (at_lt (by omega) : ∃ z, F[m - 1]? = some z)
            obtain ⟨b', o', hbo, hb', m0, m1, m2, m3⟩ := v_at (Lf.out.below H2.out) hz
            cases hbo
            have M0 := fun d os => cell_regrown m0 d os
            have M1 := fun d os => cell_regrown m1 d os
            have M2 := fun d os => cell_regrown m2 d os
            have M3 := fun d os => cell_regrown m3 d os
            have g0 : decide (0 < m) = true := decide_eq_true (by omega)
            have n0' : (1 : Int) ≤ (m : Int) := by omega
            have n0 : (0 : Int) ≤ (m : Int) - 1 := by omega
            have n1 : (m : Int) - 1 < (F.length : Int) := by omega
            have n2 : ((m : Int) - 1).toNat = m - 1 := by omega
            have EW : Hid (IntKind.i64.wrap ((m : Int) - 1) = (m : Int) - 1) := IntWalk.i64_in _ (by omega)
            have hlt2 : cv z y < 0 := asc_at FS.out.asc hz HY.out (by omega)
            have D := Lib.hid (fun d os => Calls.regrown_of (w := wr) (d := d) (os := os) (cmp_any z y _))
            generalize cv z y = s at D hlt2
            have ds : decide (0 ≤ s) = false := decide_eq_false (by omega)
            clear hz m0 m1 m2 m3 hb' hlt2 hm0
            go_wp2_with fail
            refine wp_region_quiet_below (by kernel_rfl) (by kernel_rfl) ?_
            have ew := EW.out
            repeat (go_big_quiet_step (with_reducible exact D.out _ _))
            refine wpQuiet_nil ?_
            intro w4 hw4
            have B4 := Lib.hid (regrown_below H2.out hw4)
            clear hw4 H2 N0 N1 N2 N3 M0 M1 M2 M3 D ew n0 n0' n1 n2
            go_wp2_with fail
            go_loopw [8] (fun j W => ∃ k : Nat, j = .int .i64 (k : Int) ∧ k ≤ F.length ∧ Hid (RowKit.Below w2.heap.size w2 W)) (fun j _ => F.length - (intOf j).toNat)
            case atStart => exact ⟨0, rfl, Nat.zero_le _, B4⟩
            case round =>
              clear B4
              obtain ⟨t, rfl, ht, H3⟩ := hrel
              by_cases htl : t < F.length
              · obtain ⟨z, hz⟩ := at_lt htl
                have gt : (t : Int) < (F.length : Int) := by omega
                obtain ⟨b', o', hbo, hb', m0, m1, m2, m3⟩ := v_at (Lf.out.below H3.out) hz
                cases hbo
                obtain ⟨b', o', hbo, hb'', n0, n1, n2, n3⟩ := v_at (Lf.out.below H3.out) HY.out
                cases hbo
                have M0 := fun d os => cell_regrown m0 d os
                have M1 := fun d os => cell_regrown m1 d os
                have M2 := fun d os => cell_regrown m2 d os
                have M3 := fun d os => cell_regrown m3 d os
                have N0 := fun d os => cell_regrown n0 d os
                have N1 := fun d os => cell_regrown n1 d os
                have N2 := fun d os => cell_regrown n2 d os
                have N3 := fun d os => cell_regrown n3 d os
                have hnd : dom y z = false := FS.out.best z (List.mem_iff_getElem?.2 ⟨t, hz⟩) y (FS.out.sub y YF.out)
                have D := Lib.hid (fun d os => Calls.regrown_of (w := wr) (d := d) (os := os) (dom_any y z _))
                rw [hnd] at D
                clear hz m0 m1 m2 m3 n0 n1 n2 n3 hb' hb'' hnd
                go_wp2_with fail
                refine wp_region_quiet_below (by kernel_rfl) (by kernel_rfl) ?_
                repeat (go_big_quiet_step (with_reducible exact D.out _ _))
                refine wpQuiet_nil ?_
                intro w5 hw5
                have B5 := Lib.hid (regrown_below H3.out hw5)
                clear hw5 H3 M0 M1 M2 M3 N0 N1 N2 N3 D
                go_wp2_with fail
                go_roundw
                case rel => exact ⟨t + 1, by go_num, by omega, B5⟩
                case measure => simp [intOf]; omega
              · have dt : decide (t < F.length) = false := by rw [decide_eq_false_iff_not]; exact htl
                clear htl
                go_wp2_with fail
                go_roundw
                case rel => exact ⟨m + 1, by go_num, by omega, H3⟩
                case measure => simp [intOf]; omega
    · have dm : decide (m < F.length) = false := by rw [decide_eq_false_iff_not]; exact hlt
      clear hlt hm
      go_wp2_with fail
      go_loopw [9] (fun i W => ∃ k : Nat, i = .int .i64 (k : Int) ∧ k ≤ l.length ∧ Hid (RowKit.Below w2.heap.size w2 W)) (fun i _ => l.length - (intOf i).toNat)
      case atStart => exact ⟨0, rfl, Nat.zero_le _, HB⟩
      case round =>
        clear HB
        obtain ⟨k, rfl, hk, H2⟩ := hrel
        by_cases hlk : k < l.length
        · obtain ⟨x, hx⟩ := at_lt hlk
          have gk : (k : Int) < (l.length : Int) := by omega
          obtain ⟨b, o, hbo, hb, m0, m1, m2, m3⟩ := v_at (Lx.out.below H2.out) hx
          subst hbo
          have C := Lib.hid (CF.out x (List.mem_iff_getElem?.2 ⟨k, hx⟩) _ wr (Lf.out.below H2.out))
          clear hx hb
          go_wp2_with fail
          refine C.out.mono ?_
          rintro e w4 ⟨rfl, b4⟩
          have B4 := Lib.hid (H2.out.trans (b4.mono H2.out.size))
          clear b4 H2 C m0 m1 m2 m3
          go_wp2_with fail
          go_roundw
          case rel => exact ⟨k + 1, by go_num, by omega, B4⟩
          case measure => simp [intOf]; omega
        · have dk : decide (k < l.length) = false := by rw [decide_eq_false_iff_not]; exact hlk
          have Lx := Lib.hid (Lx.out.below H2.out)
          have Lf := Lib.hid (Lf.out.below H2.out)
          have BB0 := Lib.hid (BB2.out.trans (H2.out.mono BB2.out.size))
          clear hlk H2 BB2 hk
          go_wp2_with fail
          refine (turned_any _ l (by omega) wr Lx.out).mono ?_
          rintro e v1 ⟨v_t, rfl, l_t, b1⟩
          have Lf := Lib.hid (Lf.out.below b1)
          have Lt := Lib.hid l_t
          have BB1 := Lib.hid (BB0.out.trans (b1.mono BB0.out.size))
          clear l_t b1 BB0 Lx
          go_wp2_with fail
          refine (FR.out _ v1 Lt.out).mono ?_
          rintro e v2 ⟨v_r, rfl, l_r, b2⟩
          have Lf := Lib.hid (Lf.out.below b2)
          have Lr := Lib.hid l_r
          have BB2 := Lib.hid (BB1.out.trans (b2.mono BB1.out.size))
          clear l_r b2 BB1 Lt
          go_wp2_with fail
          refine (to_any _ F (by omega) v2 Lr.out).mono ?_
          rintro e v3 ⟨v_p, rfl, l_p, b3⟩
          have Lf := Lib.hid (Lf.out.below b3)
          have Lp := Lib.hid l_p
          have BB3 := Lib.hid (BB2.out.trans (b3.mono BB2.out.size))
          clear l_p b3 BB2 Lr
          go_wp2_with fail
          refine (to_any _ F (by omega) v3 Lf.out).mono ?_
          rintro e v4 ⟨v_q, rfl, l_q, b4⟩
          have Lf := Lib.hid (Lf.out.below b4)
          have Lp := Lib.hid (Lp.out.below b4)
          have Lq := Lib.hid l_q
          have BB4 := Lib.hid (BB3.out.trans (b4.mono BB3.out.size))
          clear l_q b4 BB3
          go_wp2_with fail
          refine (ex_same _ _ F (by omega) v4 Lp.out Lq.out).mono ?_
          rintro e v5 ⟨rfl, b5⟩
          have Lf := Lib.hid (Lf.out.below b5)
          have BB5 := Lib.hid (BB4.out.trans (b5.mono BB4.out.size))
          clear b5 BB4 Lp Lq
          go_wp2_with fail
          refine (FF.out _ v5 Lf.out).mono ?_
          rintro e v6 ⟨v_r, rfl, l_r, b6⟩
          have Lf := Lib.hid (Lf.out.below b6)
          have Lr := Lib.hid l_r
          have BB6 := Lib.hid (BB5.out.trans (b6.mono BB5.out.size))
          clear l_r b6 BB5
          go_wp2_with fail
          refine (to_any _ F (by omega) v6 Lr.out).mono ?_
          rintro e v7 ⟨v_p, rfl, l_p, b7⟩
          have Lf := Lib.hid (Lf.out.below b7)
          have Lp := Lib.hid l_p
          have BB7 := Lib.hid (BB6.out.trans (b7.mono BB6.out.size))
          clear l_p b7 BB6 Lr
          go_wp2_with fail
          refine (to_any _ F (by omega) v7 Lf.out).mono ?_
          rintro e v8 ⟨v_q, rfl, l_q, b8⟩
          have Lf := Lib.hid (Lf.out.below b8)
          have Lp := Lib.hid (Lp.out.below b8)
          have Lq := Lib.hid l_q
          have BB8 := Lib.hid (BB7.out.trans (b8.mono BB7.out.size))
          clear l_q b8 BB7
          go_wp2_with fail
          refine (ex_same _ _ F (by omega) v8 Lp.out Lq.out).mono ?_
          rintro e v9 ⟨rfl, b9⟩
          have Lf := Lib.hid (Lf.out.below b9)
          have BB9 := Lib.hid (BB8.out.trans (b9.mono BB8.out.size))
          clear b9 BB8 Lp Lq
          go_wp2_with fail
          refine (IF.out _ v9 Lf.out).mono ?_
          rintro e v10 ⟨rfl, b10⟩
          have BB10 := Lib.hid (BB9.out.trans (b10.mono BB9.out.size))
          clear b10 BB9 Lf
          go_wp2_with fail
          refine (ex_any v10).mono ?_
          rintro e v11 ⟨rfl, b11⟩
          have BB11 := Lib.hid (BB10.out.trans (b11.mono BB10.out.size))
          clear b11 BB10
          go_wp2_with fail
          go_ret
          exact ⟨rfl, BB11.out⟩
end Go.Proofs.Ytokcpgpchiikgaa
