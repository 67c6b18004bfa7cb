/-
  The reference's Components: what the call answers; nothing that existed before the call has changed behind it. Condition: lists of fewer than 2^63 edges.
-/
import Derived.Test.YtahbgafjljfndaaKTop
import Derived.Test.YtahbgafjljfndaaRCos2
namespace Go.Proofs.Ytahbgafjljfndaa
open Go.RowKit

theorem lab_less {f : List Int} {e : Ed} (h : f.getD e.1 0 < f.getD e.2.1 0) : lab f e = f.set e.2.1 (f.getD e.1 0) := by unfold lab; rw [if_pos h]
theorem lab_not {f : List Int} {e : Ed} (h : ¬ f.getD e.1 0 < f.getD e.2.1 0) : lab f e = f.set e.1 (f.getD e.2.1 0) := by unfold lab; rw [if_neg h]
theorem labL_drop {L : List Ed} {f : List Int} {j : Nat} {e : Ed} (h : L[j]? = some e) : labL (L.drop j) f = labL (L.drop (j + 1)) (lab f e) := by rw [drop_at L j e h]; rfl
theorem labS_take {k : Nat} : labS (k + 1) = labS k ++ [(k : Int)] := by unfold labS; rw [List.range_succ, List.map_append]; rfl
set_option maxRecDepth 100000 in
set_option maxHeartbeats 8000000 in
theorem rcomp_any (n : Int) (v : Value) (l : List Er) (hl : l.length ≤ 9223372036854775807) (w : World) (h : LstR w v l) :
    Calls Try.prog 20 #[.int .i64 n, v] w fun e w' => ∃ u, e = .returned (.tuple #[u, .int .i64 (chkR n l)]) ∧ OwnI w' w.heap.size u (ansC n l) ∧ Below w.heap.size w w' := by
  have CK := Lib.hid (rcheck_any n v l hl w h)
  have H := Lib.hid h
  clear h
  by_cases hc : chkR n l = 0
  · obtain ⟨N, L, g⟩ := chkR_ok hc
    have hn := g.n_eq
    have A := Lib.hid (ansC_ok g hc)
    rw [hc] at CK ⊢
    subst hn
    have HL : Hid (LstD w v L) := by have := H.out; rw [g.l_eq] at this; exact this.down
    have hN := g.le
    have hm := g.many
    have HI := Lib.hid g.inn
    clear hc H hl g
    go_enter Try.func20, Try.ntmps20
    go_wp2_with fail
    refine CK.out.mono ?_
    rintro e w' ⟨rfl, rfl⟩
    clear CK
    go_wp2_with fail
    go_loopw [7, 8] (fun u i wr => ∃ k : Nat, i = .int .i64 k ∧ k ≤ N ∧ Hid (OwnI wr w.heap.size u (labS k)) ∧ Hid (Below w.heap.size w wr)) (fun _ i _ => N - (intOf i).toNat)
    case atStart => exact ⟨0, rfl, Nat.zero_le _, Lib.hid (OwnI.nil _ _), Lib.hid (Below.refl _ _)⟩
    case round =>
      obtain ⟨k, rfl, hk, HO, HB⟩ := hrel
      by_cases hlt : k < N
      · have gk : (k : Int) < (N : Int) := by omega
        have hz := HB.out.size
        have hln := labS_length k
        have HLN := Lib.hid hln
        clear hln
        go_wp2_with (at_builtin; refine app_int _ rfl (.tmp 27) (.tmp 29) rfl w.heap.size _ (labS k) (k : Int) rfl (World.ownsRow.alloc HO.out _) wr.heap.size _ (heap_alloc_new _ _) rfl rfl (by simp; omega) (by rw [HLN.out]; omega) ?_; intro v1 w1 own1 b1; have O1 := Lib.hid own1; have B1 : Hid (Below w.heap.size w w1) := (HB.out.alloc hz _).trans b1; clear own1 b1)
        go_roundw
        case rel => exact ⟨k + 1, by go_num, by omega, by rw [labS_take]; exact O1, B1⟩
        case measure => simp [intOf]; omega
      · have hkN : k = N := by omega
        subst hkN
        have d : decide ((k : Int) < (k : Int)) = false := by simp
        have hfl := labS_length k
        obtain ⟨A1, c1, hu7, hc1, -⟩ := own_shape HO.out
        rw [hfl] at hu7
        subst hu7
        have LF : Hid (labN L (k - 0) (labS k) = firstL k L) := rfl
        clear hlt hfl hc1 hk
        go_wp2_with fail
        clear d
        go_loopw [9] (fun r wx => ∃ (q : Nat) (f : List Int), r = .int .i64 q ∧ q ≤ k ∧ Hid (f.length = k ∧ labN L (k - q) f = firstL k L) ∧ Hid (OwnI wx w.heap.size (.slice A1 k c1) f) ∧ Hid (Below w.heap.size w wx)) (fun r _ => k - (intOf r).toNat)
        case atStart => exact ⟨0, _, rfl, Nat.zero_le _, ⟨labS_length k, LF.out⟩, HO, HB⟩
        case round =>
          clear LF HO HB
          obtain ⟨q, f, rfl, hq, HF, HO, HB⟩ := hrel
          by_cases hlt : q < k
          · have gq : (q : Int) < (k : Int) := by omega
            have HF2 : Hid (f.length = k ∧ labN L (k - q - 1) (labL (L.drop 0) f) = firstL k L) := by
              refine ⟨HF.out.1, ?_⟩
              have := HF.out.2
              rw [show k - q = (k - q - 1) + 1 by omega] at this
              exact this
            obtain ⟨A2, c2, rfl, -, -, -⟩ := id HL.out
            obtain ⟨g, hA1, hgb, hgl⟩ : ∃ g, A1 = some ⟨g, 0, none⟩ ∧ w.heap.size ≤ g ∧ g < wr.heap.size := by
              rcases HO.out.low with ⟨h, hnil⟩ | ⟨g, c', h, h1, h2, _⟩
              · have := HF.out.1
                rw [hnil] at this
                simp at this
                omega
              · simp at h
                exact ⟨g, h.1, h1, h2⟩
            subst hA1
            have HGB := Lib.hid hgb
            have HQ : Hid (q < k) := hlt
            clear HF hlt hgl hgb
            go_wp2_with fail
            go_loopw [10] (fun i wy => ∃ (j : Nat) (f' : List Int), i = .int .i64 j ∧ j ≤ L.length ∧ Hid (f'.length = k ∧ labN L (k - q - 1) (labL (L.drop j) f') = firstL k L) ∧ Hid (OwnI wy w.heap.size (.slice (some ⟨g, 0, none⟩) k c1) f') ∧ Hid (Below w.heap.size w wy)) (fun i _ => L.length - (intOf i).toNat)
            case atStart => exact ⟨0, f, rfl, Nat.zero_le _, HF2, HO, HB⟩
            case round =>
              clear HF2 HO HB gq
              obtain ⟨j, f', rfl, hj, HF, HO, HB⟩ := hrel
              by_cases hlt2 : j < L.length
              · obtain ⟨e, he⟩ := at_lt hlt2
                obtain ⟨b0, o, rfl, hb0, r0, r1, r2⟩ := three_at de_len (HL.out.below HB.out) he rfl
                have hin := HI.out e (List.mem_iff_getElem?.2 ⟨j, he⟩)
                have FD := HF.out.2
                rw [labL_drop he] at FD
                have hfl := HF.out.1
                obtain ⟨x, y, z⟩ := e
                simp only at r0 r1 r2 hin
                have gj : (j : Int) < (L.length : Int) := by omega
                have gx : (x : Int) < (k : Int) := by omega
                have gy : (y : Int) < (k : Int) := by omega
                obtain ⟨cx, fx⟩ := OwnI.atn hfl HO.out (at_getI (d := f') (i := x) (by omega))
                obtain ⟨cy, fy⟩ := OwnI.atn hfl HO.out (at_getI (d := f') (i := y) (by omega))
                obtain ⟨dx, hdx⟩ : ∃ d, f'.getD x 0 = d := ⟨_, rfl⟩
                obtain ⟨dy, hdy⟩ : ∃ d, f'.getD y 0 = d := ⟨_, rfl⟩
                rw [hdx] at cx
                rw [hdy] at cy
                have ex : Hid (dx < dy → lab f' (x, y, z) = f'.set y dx) := by
                  intro h
                  have := lab_less (f := f') (e := (x, y, z)) (by show f'.getD x 0 < f'.getD y 0; omega)
                  rw [this]
                  show f'.set y (f'.getD x 0) = _
                  rw [hdx]
                have ey : Hid (¬ dx < dy → lab f' (x, y, z) = f'.set x dy) := by
                  intro h
                  have := lab_not (f := f') (e := (x, y, z)) (by show ¬ f'.getD x 0 < f'.getD y 0; omega)
                  rw [this]
                  show f'.set x (f'.getD y 0) = _
                  rw [hdy]
                have HFD := Lib.hid FD
                have HFL := Lib.hid hfl
                clear he FD hfl HF hdx hdy
                go_wp2_with fail
                go_quiet (fail)
                have B2 : Hid (Below w.heap.size w (wr.drewN nq)) := below_drewN HB.out nq
                have O2 : Hid (OwnI (wr.drewN nq) w.heap.size (.slice (some ⟨g, 0, none⟩) k c1) f') := HO.out.below (below_drewN (Below.refl _ _) nq)
                have cx2 : (wr.drewN nq).cell? ⟨g, x, none⟩ = some (.int .i64 dx) := cx
                have cy2 : (wr.drewN nq).cell? ⟨g, y, none⟩ = some (.int .i64 dy) := cy
                have fx2 : (wr.drewN nq).frozen? ⟨g, x, none⟩ = false := fx
                have fy2 : (wr.drewN nq).frozen? ⟨g, y, none⟩ = false := fy
                clear cx cy fx fy r0 r1 r2 HO HB
                generalize wr.drewN nq = w2 at B2 O2 cx2 cy2 fx2 fy2 ⊢
                by_cases hxy : dx < dy
                · go_wp2_with fail
                  go_quiet (fail)
                  have B3 : Hid (Below w.heap.size w (w2.drewN nq)) := below_drewN B2.out _
                  have O3 : Hid (OwnI (w2.drewN nq) w.heap.size (.slice (some ⟨g, 0, none⟩) k c1) f') := O2.out.below (below_drewN (Below.refl _ _) nq)
                  have cx3 : (w2.drewN nq).cell? ⟨g, x, none⟩ = some (.int .i64 dx) := cx2
                  have cy3 : (w2.drewN nq).cell? ⟨g, y, none⟩ = some (.int .i64 dy) := cy2
                  have fx3 : (w2.drewN nq).frozen? ⟨g, x, none⟩ = false := fx2
                  have fy3 : (w2.drewN nq).frozen? ⟨g, y, none⟩ = false := fy2
                  clear cx2 cy2 fx2 fy2 B2 O2
                  generalize w2.drewN nq = w3 at B3 O3 cx3 cy3 fx3 fy3 ⊢
                  have E := Lib.hid (ex.out hxy)
                  have O4 : Hid (OwnI (w3.setCell ⟨g, y, none⟩ (.int .i64 dx)) w.heap.size (.slice (some ⟨g, 0, none⟩) k c1) (lab f' (x, y, z))) := by
                    show OwnI _ _ _ _
                    rw [E.out]
                    exact OwnI.putn HFL.out O3.out y dx
                  have B4 : Hid (Below w.heap.size w (w3.setCell ⟨g, y, none⟩ (.int .i64 dx))) := B3.out.setCell HGB.out _
                  have F4 : Hid ((lab f' (x, y, z)).length = k ∧ labN L (k - q - 1) (labL (L.drop (j + 1)) (lab f' (x, y, z))) = firstL k L) := ⟨by rw [lab_length]; exact HFL.out, HFD.out⟩
                  clear E O3 B3 HFL HFD ex ey hxy
                  go_wp2_with fail
                  go_roundw
                  case rel => exact ⟨j + 1, _, by go_num, by omega, F4, O4, B4⟩
                  case measure => simp [intOf]; omega
                · have dxy : decide (dx < dy) = false := decide_eq_false hxy
                  go_wp2_with fail
                  go_quiet (fail)
                  have B3 : Hid (Below w.heap.size w (w2.drewN nq)) := below_drewN B2.out _
                  have O3 : Hid (OwnI (w2.drewN nq) w.heap.size (.slice (some ⟨g, 0, none⟩) k c1) f') := O2.out.below (below_drewN (Below.refl _ _) nq)
                  have cx3 : (w2.drewN nq).cell? ⟨g, x, none⟩ = some (.int .i64 dx) := cx2
                  have cy3 : (w2.drewN nq).cell? ⟨g, y, none⟩ = some (.int .i64 dy) := cy2
                  have fx3 : (w2.drewN nq).frozen? ⟨g, x, none⟩ = false := fx2
                  have fy3 : (w2.drewN nq).frozen? ⟨g, y, none⟩ = false := fy2
                  clear cx2 cy2 fx2 fy2 B2 O2
                  generalize w2.drewN nq = w3 at B3 O3 cx3 cy3 fx3 fy3 ⊢
                  have E := Lib.hid (ey.out hxy)
                  have O4 : Hid (OwnI (w3.setCell ⟨g, x, none⟩ (.int .i64 dy)) w.heap.size (.slice (some ⟨g, 0, none⟩) k c1) (lab f' (x, y, z))) := by
                    show OwnI _ _ _ _
                    rw [E.out]
                    exact OwnI.putn HFL.out O3.out x dy
                  have B4 : Hid (Below w.heap.size w (w3.setCell ⟨g, x, none⟩ (.int .i64 dy))) := B3.out.setCell HGB.out _
                  have F4 : Hid ((lab f' (x, y, z)).length = k ∧ labN L (k - q - 1) (labL (L.drop (j + 1)) (lab f' (x, y, z))) = firstL k L) := ⟨by rw [lab_length]; exact HFL.out, HFD.out⟩
                  clear E O3 B3 HFL HFD ex ey hxy
                  go_wp2_with fail
                  go_roundw
                  case rel => exact ⟨j + 1, _, by go_num, by omega, F4, O4, B4⟩
                  case measure => simp [intOf]; omega
              · have d0 : decide (j < L.length) = false := by rw [decide_eq_false_iff_not]; exact hlt2
                have F5 : Hid (f'.length = k ∧ labN L (k - (q + 1)) f' = firstL k L) := by
                  refine ⟨HF.out.1, ?_⟩
                  have := HF.out.2
                  rw [List.drop_of_length_le (by omega), show k - q - 1 = k - (q + 1) by omega] at this
                  exact this
                clear hlt2 HF
                go_wp2_with fail
                go_roundw
                case rel => exact ⟨q + 1, f', by go_num, by have := HQ.out; omega, F5, HO, HB⟩
                case measure => have := HQ.out; simp [intOf]; omega
          · have d0 : decide (q < k) = false := by rw [decide_eq_false_iff_not]; exact hlt
            have hqk : q = k := by omega
            have hf : f = firstL k L := by
              have := HF.out.2
              rw [hqk, Nat.sub_self] at this
              exact this
            subst hf
            have HC := Lib.hid (fun i (hi : i < k) => comp_first HI.out hi)
            have hfl := firstL_length k L
            have HFLL := Lib.hid hfl
            clear hlt HF hqk hq hfl
            obtain ⟨w4, rfl⟩ : ∃ x, x = wr := ⟨wr, rfl⟩
            have hz4 := HB.out.size
            have O4 := Lib.hid HO.out
            have BW4 := Lib.hid HB.out
            clear HO HB
            go_wp2_with fail
            go_loopw [13, 14, 15] (fun u qv i wx => ∃ j : Nat, i = .int .i64 j ∧ j ≤ k ∧ qv = .int .i64 ((rank (firstL k L) j : Nat) : Int) ∧ Hid (OwnI wx w4.heap.size u ((compL (firstL k L)).take j)) ∧ Hid (Below w4.heap.size w4 wx)) (fun _ _ i _ => k - (intOf i).toNat)
            case atStart => exact ⟨0, rfl, Nat.zero_le _, rfl, Lib.hid (OwnI.nil _ _), Lib.hid (Below.refl _ _)⟩
            case round =>
              obtain ⟨j, rfl, hj, rfl, HU, HB⟩ := hrel
              have hz := HB.out.size
              by_cases hlt : j < k
              · have gj : (j : Int) < (k : Int) := by omega
                obtain ⟨f0, hf0, hfj, hff⟩ := HC.out j hlt
                obtain ⟨g, hA1, hg, m0⟩ : ∃ g, A1 = some ⟨g, 0, none⟩ ∧ g < w4.heap.size ∧ w4.cell? ⟨g, j, none⟩ = some (.int .i64 ((firstL k L).getD j 0)) := by
                  rcases O4.out.low with ⟨-, hnil⟩ | ⟨g, c', h, -, h2, -⟩
                  · have := HFLL.out
                    rw [hnil] at this
                    simp at this
                    omega
                  · simp at h
                    refine ⟨g, h.1, h2, ?_⟩
                    have ho := O4.out
                    rw [h.1] at ho
                    exact (OwnI.atn HFLL.out ho (at_getI (by rw [HFLL.out]; exact hlt))).1
                subst hA1
                rw [hf0] at m0
                have m1 := (HB.out.cell (p := ⟨g, j, none⟩) hg).trans m0
                have hrk := rank_le (firstL k L) j
                have hcl : (compL (firstL k L)).length = k := by rw [compL_length, HFLL.out]
                have htl : ((compL (firstL k L)).take j).length = j := by rw [List.length_take, hcl]; omega
                have HTL := Lib.hid htl
                clear m0
                by_cases hr : f0 = j
                · subst hr
                  have e1 := num_root (f := firstL k L) (i := f0) (by rw [HFLL.out]; exact hlt) hf0
                  have TK := Lib.hid (take_at _ f0 _ e1)
                  have RK := Lib.hid (rank_yes hf0)
                  have t := beq_true (a := (f0 : Int)) rfl
                  clear e1 hf0 hff hcl htl
                  generalize hrr : rank (firstL k L) f0 = r at RK hrk TK ⊢
                  clear hrr
                  go_wp2_with (at_builtin; refine app_int _ rfl (.tmp 86) (.tmp 88) rfl w4.heap.size _ ((compL (firstL k L)).take f0) (r : Int) rfl (World.ownsRow.alloc HU.out _) wr.heap.size _ (heap_alloc_new _ _) rfl rfl (by simp; omega) (by rw [HTL.out]; omega) ?_; intro v1 w5 own1 b1; have U1 := Lib.hid own1; have B1 : Hid (Below w4.heap.size w4 w5) := (HB.out.alloc hz _).trans b1; clear own1 b1)
                  go_roundw
                  case rel => exact ⟨f0 + 1, by go_num, by omega, by rw [RK.out]; go_num, by rw [TK.out]; exact U1, B1⟩
                  case measure => simp [intOf]; omega
                · have e1 := num_same (f := firstL k L) (i := j) (p := f0) (by rw [HFLL.out]; exact hlt) (by rw [HFLL.out]; omega) (by rw [hff, hf0])
                  obtain ⟨x, hx⟩ := at_lt (l := compL (firstL k L)) (k := f0) (by omega)
                  rw [hx] at e1
                  have TK := Lib.hid (take_at _ j _ e1)
                  have RK := Lib.hid (rank_no (f := firstL k L) (k := j) (by rw [hf0]; omega))
                  have t := beq_false (a := (f0 : Int)) (b := (j : Int)) (by omega)
                  obtain ⟨A3, c3, rfl, -⟩ := own_shape HU.out
                  have hu := OwnI.lst HU.out
                  obtain ⟨b9, o9, rfl, hb9, q9⟩ := int_cell hu (i := f0) (x := x) (by rw [List.getElem?_take, if_pos (by omega)]; exact hx)
                  have gf : (f0 : Int) < (j : Int) := by omega
                  obtain ⟨lc, hlc⟩ : ∃ q, (compL (firstL k L)).take j = q := ⟨_, rfl⟩
                  have hu0 := HU.out
                  rw [hlc] at hu0 htl TK HTL ⊢
                  have HU2 : Hid (World.ownsRow wr w4.heap.size 3 1 (.slice (some ⟨b9, o9, none⟩) j c3) j (ints lc)) := by have := hu0; unfold OwnI at this; rw [htl] at this; exact this
                  rw [htl]
                  clear hu0 HU
                  clear e1 hf0 hff hcl hu hx hlc htl
                  go_wp2_with (at_builtin; refine app_int _ rfl (.tmp 92) (.tmp 100) rfl w4.heap.size _ lc x rfl (World.ownsRow.alloc (show World.ownsRow wr w4.heap.size 3 1 _ lc.length (ints lc) by rw [HTL.out]; exact HU2.out) _) wr.heap.size _ (heap_alloc_new _ _) rfl rfl (by simp; omega) (by rw [HTL.out]; omega) ?_; intro v1 w5 own1 b1; have U1 := Lib.hid own1; have B1 : Hid (Below w4.heap.size w4 w5) := (HB.out.alloc hz _).trans b1; clear own1 b1)
                  go_roundw
                  case rel => exact ⟨j + 1, by go_num, by omega, by rw [RK.out], by rw [TK.out]; exact U1, B1⟩
                  case measure => simp [intOf]; omega
              · have d0 : decide (j < k) = false := by rw [decide_eq_false_iff_not]; exact hlt
                have E : Hid (OwnI wr w.heap.size u13 (ansC (k : Int) l)) := by
                  have := HU.out
                  rw [List.take_of_length_le (by rw [compL_length, HFLL.out]; omega)] at this
                  rw [A.out]
                  exact own_down this hz4
                have B9 : Hid (Below w.heap.size w wr) := BW4.out.trans (HB.out.mono hz4)
                clear hlt HU
                go_wp2_with fail
                go_ret2
                exact ⟨_, rfl, E.out, B9.out⟩
  · have A := Lib.hid (ansC_bad hc)
    have t := bne_true (a := chkR n l) (b := 0) hc
    generalize chkR n l = q at CK t ⊢
    clear hc H hl
    go_enter Try.func20, Try.ntmps20
    go_wp2_with fail
    refine CK.out.mono ?_
    rintro e w' ⟨rfl, rfl⟩
    clear CK
    go_wp2_with fail
    go_ret2
    exact ⟨_, rfl, by rw [A.out]; exact OwnI.nil _ _, Below.refl _ _⟩
end Go.Proofs.Ytahbgafjljfndaa
