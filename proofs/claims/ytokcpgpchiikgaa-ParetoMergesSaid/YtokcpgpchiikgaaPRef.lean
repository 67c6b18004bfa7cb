/-
  The reference's Front, Merge, Insert and IsFront. Condition: the lists' lengths are below the bounds that each theorem names.
-/
import Derived.Test.YtokcpgpchiikgaaPMrg
import Derived.Test.YtokcpgpchiikgaaPSel
namespace Go.Proofs.Ytokcpgpchiikgaa
open Go.RowKit Go.Sort

/-- The length in a slice's value. -/
def sliceLen : Value → Nat
  | .slice _ n _ => n
  | _ => 0
theorem own_slice {T : TypeId} {w : World} {base : Nat} {v : Value} {l : List Vec} (h : OwnG vc T 4 w base v l) : ∃ A c, v = .slice A l.length c := by
  obtain ⟨A, c, hv, _⟩ := ownK_shape h
  exact ⟨A, c, hv⟩
set_option maxRecDepth 100000 in
set_option maxHeartbeats 32000000 in
theorem rfront_any (v : Value) (l : List Vec) (hl : l.length ≤ 900000) (w : World) (h : LstV w v l) :
    Calls Try.prog 18 #[v] w fun e w' => ∃ v', e = .returned v' ∧ LstV w' v' (frV l) ∧ RowKit.Below w.heap.size w w' := by
  have hh := h
  obtain ⟨A, c, rfl, -⟩ := hh
  have H := Lib.hid h
  have FS := Lib.hid (frV_spec l)
  have hfl := Nat.le_trans (frV_len l) hl
  generalize frV l = F at FS hfl ⊢
  clear h
  go_enter Try.func18, Try.ntmps18
  go_wp2_with fail
  go_loopw [3] (fun u wr => ∃ O G : List Vec, Hid (F = O ++ G) ∧ Hid (OwnR wr w.heap.size u O) ∧ Hid (RowKit.Below w.heap.size w wr)) (fun u _ => F.length - sliceLen u)
  case atStart => exact ⟨[], F, Lib.hid rfl, Lib.hid (OwnG.nil _ _ _ _ _), Lib.hid (RowKit.Below.refl _ _)⟩
  case round =>
    obtain ⟨O, G, HF, HO, HB⟩ := hrel
    have FR : Hid (Frt l (O ++ G)) := by
      show Frt _ _
      rw [← HF.out]
      exact FS.out
    have hog : O.length + G.length = F.length := by rw [HF.out, List.length_append]
    have hO : O.length ≤ 900000 := by omega
    obtain ⟨A3, c3, h3⟩ := own_slice HO.out
    subst h3
    have LO := Lib.hid (OwnG.lst HO.out)
    have hzO := HB.out.size
    go_wp2_with fail
    go_loopw [4, 5] (fun b i w2 => ∃ (k : Nat) (n : Int), b = .int .i64 n ∧ i = .int .i64 (k : Int) ∧ k ≤ l.length ∧ Hid (BR l G k n) ∧ Hid (RowKit.Below wr.heap.size wr w2)) (fun _ i _ => l.length - (intOf i).toNat)
    case atStart => exact ⟨0, -1, rfl, rfl, Nat.zero_le _, Lib.hid (BR.start l G), Lib.hid (RowKit.Below.refl _ _)⟩
    case round =>
      obtain ⟨k, n, rfl, rfl, hk, HR, H2⟩ := hrel
      have hz2 := H2.out.size
      by_cases hlt : k < l.length
      · obtain ⟨x, hx⟩ := at_lt hlt
        have HL := Lib.hid (H.out.below (HB.out.trans (H2.out.mono hzO)))
        obtain ⟨b, o, rfl, hb, m0, m1, m2, m3⟩ := v_at HL.out hx
        have gk : (k : Int) < (l.length : Int) := by omega
        have M0 := fun d os => cell_regrown m0 d os
        have M1 := fun d os => cell_regrown m1 d os
        have M2 := fun d os => cell_regrown m2 d os
        have M3 := fun d os => cell_regrown m3 d os
        have DM := Lib.hid (fun d os => Calls.regrown_of (w := wr) (d := d) (os := os) (dmd_any _ l x (by omega) _ (HL.out.below (below_regrown wr d os))))
        have HX := Lib.hid hx
        have XM := Lib.hid (List.mem_iff_getElem?.2 ⟨k, hx⟩)
        clear hx m0 m1 m2 m3 hb
        rcases (by cases dmd l x <;> simp : dmd l x = true ∨ dmd l x = false) with hd | hd
        · have NG : Hid (¬ x ∈ G) := cand_dom FR.out hd
          rw [hd] at DM
          have R2 := Lib.hid (BR.skip HR.out HX.out NG.out)
          clear hd NG HR
          go_wp2_with fail
          refine wp_region_quiet_below (by kernel_rfl) (by kernel_rfl) ?_
          repeat (go_big_quiet_step (with_reducible exact DM.out _ _))
          refine wpQuiet_nil ?_
          intro w4 hw4
          have B4 := Lib.hid (regrown_below H2.out hw4)
          clear hw4 H2 M0 M1 M2 M3 DM
          go_wp2_with fail
          go_roundw
          case rel => exact ⟨k + 1, n, rfl, by go_num, by omega, R2, B4⟩
          case measure => simp [intOf]; omega
        · rw [hd] at DM
          by_cases h0 : O.length = 0
          · obtain rfl := List.length_eq_zero_iff.1 h0
            have XG : Hid (x ∈ G) := cand_first FR.out XM.out hd
            have gO : decide ((0 : Int) < (([] : List Vec).length : Int)) = false := by simp
            clear hd h0
            go_wp2_with fail
            refine wp_region_quiet_below (by kernel_rfl) (by kernel_rfl) ?_
            repeat (go_big_quiet_step (with_reducible exact DM.out _ _))
            refine wpQuiet_nil ?_
            intro w4 hw4
            have B4 := Lib.hid (regrown_below H2.out hw4)
            have HL4 := Lib.hid (H.out.below (HB.out.trans (B4.out.mono hzO)))
            obtain ⟨b', o', hbo, hb', y0, y1, y2, y3⟩ := v_at HL4.out HX.out
            cases hbo
            have N0 := fun d os => cell_regrown y0 d os
            have N1 := fun d os => cell_regrown y1 d os
            have N2 := fun d os => cell_regrown y2 d os
            have N3 := fun d os => cell_regrown y3 d os
            clear hw4 H2 M0 M1 M2 M3 DM y0 y1 y2 y3 hb' HL
            go_wp2_with fail
            have hk0 := HR.out.cases (by omega)
            rcases hk0 with hn1 | ⟨t, z, hn1, htl, hz⟩
            · subst hn1
              have R2 := Lib.hid (BR.first HR.out HX.out XG.out)
              clear HR
              go_wp2_with fail
              refine wp_region_quiet_below (by kernel_rfl) (by kernel_rfl) ?_
              repeat (go_big_quiet_step (fail))
              refine wpQuiet_nil ?_
              intro w5 hw5
              have B5 := Lib.hid (regrown_below B4.out hw5)
              clear hw5 B4 N0 N1 N2 N3
              go_wp2_with fail
              go_roundw
              case rel => exact ⟨k + 1, _, rfl, by go_num, by omega, R2, B5⟩
              case measure => simp [intOf]; omega
            · subst hn1
              obtain ⟨b', o', hbo, hb', z0, z1, z2, z3⟩ := v_at HL4.out hz
              cases hbo
              have dt : decide ((t : Int) < 0) = false := decide_eq_false (by omega)
              have gt : (t : Int) < (l.length : Int) := by omega
              have Z0 := fun d os => cell_regrown z0 d os
              have Z1 := fun d os => cell_regrown z1 d os
              have Z2 := fun d os => cell_regrown z2 d os
              have Z3 := fun d os => cell_regrown z3 d os
              have CM := Lib.hid (fun d os => Calls.regrown_of (w := w4) (d := d) (os := os) (rcmp_any x z _))
              have RL := Lib.hid (fun hc => BR.less HR.out hz HX.out XG.out hc)
              have RK := Lib.hid (fun hc => BR.keep HR.out hz HX.out hc)
              generalize cv x z = r at CM RL RK
              clear hz z0 z1 z2 z3 hb' HR
              by_cases hr : r < 0
              · have R2 := Lib.hid (RL.out hr)
                clear RL RK
                go_wp2_with fail
                refine wp_region_quiet_below (by kernel_rfl) (by kernel_rfl) ?_
                repeat (go_big_quiet_step (with_reducible exact CM.out _ _))
                refine wpQuiet_nil ?_
                intro w5 hw5
                have B5 := Lib.hid (regrown_below B4.out hw5)
                clear hw5 B4 N0 N1 N2 N3 Z0 Z1 Z2 Z3 CM
                go_wp2_with fail
                go_roundw
                case rel => exact ⟨k + 1, _, rfl, by go_num, by omega, R2, B5⟩
                case measure => simp [intOf]; omega
              · have dr : decide (r < 0) = false := decide_eq_false hr
                have R2 := Lib.hid (RK.out hr)
                clear RL RK hr
                go_wp2_with fail
                refine wp_region_quiet_below (by kernel_rfl) (by kernel_rfl) ?_
                repeat (go_big_quiet_step (with_reducible exact CM.out _ _))
                refine wpQuiet_nil ?_
                intro w5 hw5
                have B5 := Lib.hid (regrown_below B4.out hw5)
                clear hw5 B4 N0 N1 N2 N3 Z0 Z1 Z2 Z3 CM
                go_wp2_with fail
                go_roundw
                case rel => exact ⟨k + 1, _, rfl, by go_num, by omega, R2, B5⟩
                case measure => simp [intOf]; omega
          · obtain ⟨z, hz⟩ := (at_lt (by omega) : ∃ z, O[O.length - 1]? = some z)
            obtain ⟨p, q, hpq, hp, z0, z1, z2, z3⟩ := v_at (LO.out.below H2.out) hz
            subst hpq
            have P0 := fun d os => cell_regrown z0 d os
            have P1 := fun d os => cell_regrown z1 d os
            have P2 := fun d os => cell_regrown z2 d os
            have P3 := fun d os => cell_regrown z3 d os
            have n0 : (0 : Int) ≤ (O.length : Int) - 1 := by omega
            have n0' : (1 : Int) ≤ (O.length : Int) := by omega
            have n1 : (O.length : Int) - 1 < (O.length : Int) := by omega
            have n2 : ((O.length : Int) - 1).toNat = O.length - 1 := by omega
            have gO : decide (0 < O.length) = true := decide_eq_true (by omega)
            have EW : Hid (IntKind.i64.wrap ((O.length : Int) - 1) = (O.length : Int) - 1) := IntWalk.i64_in _ (by omega)
            have CX := Lib.hid (fun d os => Calls.regrown_of (w := wr) (d := d) (os := os) (rcmp_any x z _))
            have CL := Lib.hid (fun hc => cand_low FR.out (x := x) hz hc)
            have CH := Lib.hid (fun hc => cand_high FR.out hz hc XM.out hd)
            generalize cv x z = r at CX CL CH
            clear hz z0 z1 z2 z3 hp hd h0
            by_cases hr : r ≤ 0
            · have R2 := Lib.hid (BR.skip HR.out HX.out (CL.out hr))
              clear CL CH HR
              go_wp2_with fail
              refine wp_region_quiet_below (by kernel_rfl) (by kernel_rfl) ?_
              have ew := EW.out
              repeat (go_big_quiet_step (first | with_reducible exact DM.out _ _ | with_reducible exact CX.out _ _))
              refine wpQuiet_nil ?_
              intro w4 hw4
              have B4 := Lib.hid (regrown_below H2.out hw4)
              clear hw4 H2 M0 M1 M2 M3 DM P0 P1 P2 P3 CX ew n0 n0' n1 n2
              go_wp2_with fail
              go_roundw
              case rel => exact ⟨k + 1, n, rfl, by go_num, by omega, R2, B4⟩
              case measure => simp [intOf]; omega
            · have dr : decide (r ≤ 0) = false := decide_eq_false hr
              have XG : Hid (x ∈ G) := CH.out hr
              clear CL CH hr
              go_wp2_with fail
              refine wp_region_quiet_below (by kernel_rfl) (by kernel_rfl) ?_
              have ew := EW.out
              repeat (go_big_quiet_step (first | with_reducible exact DM.out _ _ | with_reducible exact CX.out _ _))
              refine wpQuiet_nil ?_
              intro w4 hw4
              have B4 := Lib.hid (regrown_below H2.out hw4)
              have HL4 := Lib.hid (H.out.below (HB.out.trans (B4.out.mono hzO)))
              obtain ⟨b', o', hbo, hb', y0, y1, y2, y3⟩ := v_at HL4.out HX.out
              cases hbo
              have N0 := fun d os => cell_regrown y0 d os
              have N1 := fun d os => cell_regrown y1 d os
              have N2 := fun d os => cell_regrown y2 d os
              have N3 := fun d os => cell_regrown y3 d os
              clear hw4 H2 M0 M1 M2 M3 DM y0 y1 y2 y3 hb' HL P0 P1 P2 P3 CX ew n0 n0' n1 n2 dr
              go_wp2_with fail
              have hk0 := HR.out.cases (by omega)
              rcases hk0 with hn1 | ⟨t, z, hn1, htl, hz⟩
              · subst hn1
                have R2 := Lib.hid (BR.first HR.out HX.out XG.out)
                clear HR
                go_wp2_with fail
                refine wp_region_quiet_below (by kernel_rfl) (by kernel_rfl) ?_
                repeat (go_big_quiet_step (fail))
                refine wpQuiet_nil ?_
                intro w5 hw5
                have B5 := Lib.hid (regrown_below B4.out hw5)
                clear hw5 B4 N0 N1 N2 N3
                go_wp2_with fail
                go_roundw
                case rel => exact ⟨k + 1, _, rfl, by go_num, by omega, R2, B5⟩
                case measure => simp [intOf]; omega
              · subst hn1
                obtain ⟨b', o', hbo, hb', z0, z1, z2, z3⟩ := v_at HL4.out hz
                cases hbo
                have dt : decide ((t : Int) < 0) = false := decide_eq_false (by omega)
                have gt : (t : Int) < (l.length : Int) := by omega
                have Z0 := fun d os => cell_regrown z0 d os
                have Z1 := fun d os => cell_regrown z1 d os
                have Z2 := fun d os => cell_regrown z2 d os
                have Z3 := fun d os => cell_regrown z3 d os
                have CM := Lib.hid (fun d os => Calls.regrown_of (w := w4) (d := d) (os := os) (rcmp_any x z _))
                have RL := Lib.hid (fun hc => BR.less HR.out hz HX.out XG.out hc)
                have RK := Lib.hid (fun hc => BR.keep HR.out hz HX.out hc)
                generalize cv x z = r at CM RL RK
                clear hz z0 z1 z2 z3 hb' HR
                by_cases hr : r < 0
                · have R2 := Lib.hid (RL.out hr)
                  clear RL RK
                  go_wp2_with fail
                  refine wp_region_quiet_below (by kernel_rfl) (by kernel_rfl) ?_
                  repeat (go_big_quiet_step (with_reducible exact CM.out _ _))
                  refine wpQuiet_nil ?_
                  intro w5 hw5
                  have B5 := Lib.hid (regrown_below B4.out hw5)
                  clear hw5 B4 N0 N1 N2 N3 Z0 Z1 Z2 Z3 CM
                  go_wp2_with fail
                  go_roundw
                  case rel => exact ⟨k + 1, _, rfl, by go_num, by omega, R2, B5⟩
                  case measure => simp [intOf]; omega
                · have dr : decide (r < 0) = false := decide_eq_false hr
                  have R2 := Lib.hid (RK.out hr)
                  clear RL RK hr
                  go_wp2_with fail
                  refine wp_region_quiet_below (by kernel_rfl) (by kernel_rfl) ?_
                  repeat (go_big_quiet_step (with_reducible exact CM.out _ _))
                  refine wpQuiet_nil ?_
                  intro w5 hw5
                  have B5 := Lib.hid (regrown_below B4.out hw5)
                  clear hw5 B4 N0 N1 N2 N3 Z0 Z1 Z2 Z3 CM
                  go_wp2_with fail
                  go_roundw
                  case rel => exact ⟨k + 1, _, rfl, by go_num, by omega, R2, B5⟩
                  case measure => simp [intOf]; omega
      · obtain rfl : k = l.length := by omega
        have dk : decide (l.length < l.length) = false := by simp
        have hG : ∀ z ∈ G, z ∈ l := fun z hz => FR.out.sub z (List.mem_append_right _ hz)
        have HL := Lib.hid (H.out.below (HB.out.trans (H2.out.mono hzO)))
        have O2 := Lib.hid (HO.out.below H2.out)
        have BB := Lib.hid (HB.out.trans (H2.out.mono hzO))
        rcases HR.out.cases (by omega) with hn1 | ⟨t, z, hn1, htl, hz⟩
        · subst hn1
          have hG0 := BR.none HR.out hG
          have R : Hid (LstV wr (.slice A3 O.length c3) F) := by
            have := OwnG.lst O2.out
            rw [show F = O by rw [HF.out, hG0, List.append_nil]]
            exact this
          clear HR hG hG0 hlt O2 HL
          go_wp2_with fail
          go_ret
          exact ⟨_, rfl, R.out, BB.out⟩
        · subst hn1
          obtain ⟨r, hr⟩ := BR.some HR.out hz hG (List.pairwise_append.1 FR.out.asc).2.1
          obtain ⟨b, o, rfl, hb, m0, m1, m2, m3⟩ := v_at HL.out hz
          have dt : decide ((t : Int) < 0) = false := decide_eq_false (by omega)
          have gt : (t : Int) < (l.length : Int) := by omega
          have EF : Hid (F = (O ++ [z]) ++ r) := by
            show _ = _
            rw [HF.out, hr, List.append_assoc]
            rfl
          clear HR hG hr hlt hz
          go_wp2_with (at_builtin; refine appG_one vc_len vc_one (by decide) Try.underlying35 info_rv rfl (by decide) _ rfl (.tmp 55) (.tmp 60) rfl w.heap.size _ O z rfl (World.ownsRow.alloc O2.out _) wr.heap.size _ (heap_alloc_new _ _) rfl rfl (by have := BB.out.size; simp; omega) (by omega) ?_; intro v5 w5 own5 b5 gr5 wh5; have O5 := Lib.hid own5; have B5 := Lib.hid ((BB.out.alloc BB.out.size _).trans b5); clear own5 b5 gr5 wh5)
          obtain ⟨A5, c5, h5⟩ := own_slice O5.out
          subst h5
          have hlen : (O ++ [z]).length = O.length + 1 := by rw [List.length_append]; rfl
          have hmeas : F.length - (O.length + 1) < F.length - O.length := by
            have := congrArg List.length EF.out
            rw [List.length_append, hlen] at this
            omega
          clear O2 HL m0 m1 m2 m3 BB
          go_wp2_with fail
          go_roundw
          case rel => exact ⟨O ++ [z], r, EF, O5, B5⟩
          case measure => simp only [sliceLen]; first | exact hmeas | (simp; omega)
end Go.Proofs.Ytokcpgpchiikgaa
