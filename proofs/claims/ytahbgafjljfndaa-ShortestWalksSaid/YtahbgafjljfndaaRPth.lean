/-
  The reference's Path: what the call answers; nothing that existed before the call has changed behind it. Condition: lists of fewer than 2^63 edges.
-/
import Derived.Test.YtahbgafjljfndaaRDst
namespace Go.Proofs.Ytahbgafjljfndaa
open Go.RowKit

/-- Costs out of the rounds' numbers. -/
def labOf (D : List Int) : List Ct := D.map fun c => if c < 0 then farC else (c / 128, c % 128)
theorem lc_of {L : List Ed} {n b : Nat} (hl : Inn L n) (hb : b < n) (hn : n ≤ 64) (hw : ∀ e ∈ L, e.2.2 ≤ 1073741824) : Lc (turnL L) n b (labOf (costL n L b)) := by
  have hlen := costL_length n L b
  refine ⟨by unfold labOf; rw [List.length_map, hlen], fun i hi => ?_⟩
  obtain ⟨x, hx⟩ := at_lt (l := costL n L b) (k := i) (by omega)
  have hg : gl (labOf (costL n L b)) i = if x < 0 then farC else (x / 128, x % 128) := by
    apply gl_at
    unfold labOf
    rw [List.getElem?_map, hx]
    rfl
  rw [hg]
  rcases costL_spec hl hb i with ⟨e, hno⟩ | _
  · rw [getD_of hx] at e
    rw [if_pos (by omega)]
    refine .inl ⟨rfl, fun k W hk => ?_⟩
    have := hk.turn
    rw [turn_turn] at this
    exact hno _ _ (this.wk 128)
  · rcases cost_top hl hb hn hw i with e | ⟨c, e, h1, h2, _⟩
    · rw [getD_of hx] at e
      rcases costL_spec hl hb i with ⟨_, hno⟩ | ⟨c, e2, _⟩
      · rw [if_pos (by omega)]
        refine .inl ⟨rfl, fun k W hk => ?_⟩
        have := hk.turn
        rw [turn_turn] at this
        exact hno _ _ (this.wk 128)
      · rw [getD_of hx] at e2; omega
    · rw [getD_of hx] at e
      rw [if_neg (by omega)]
      refine .inr ⟨c, ?_, h2, by rw [turn_turn]; exact h1⟩
      rw [e]
      rfl
theorem stepR_yes {d : List Int} {a : Nat} {m : Int} {e : Ed} (h1 : e.1 = a) (h2 : 0 ≤ d.getD e.2.1 (-1)) (h3 : d.getD e.2.1 (-1) + (e.2.2 : Int) * 128 + 1 = d.getD a (-1)) (h4 : m < 0 ∨ (e.2.1 : Int) < m) : stepR d a m e = (e.2.1 : Int) := by unfold stepR; rw [if_pos ⟨h1, h2, h3, h4⟩]
theorem stepR_no {d : List Int} {a : Nat} {m : Int} {e : Ed} (h : ¬ (e.1 = a ∧ 0 ≤ d.getD e.2.1 (-1) ∧ d.getD e.2.1 (-1) + (e.2.2 : Int) * 128 + 1 = d.getD a (-1) ∧ (m < 0 ∨ (e.2.1 : Int) < m))) : stepR d a m e = m := by unfold stepR; rw [if_neg h]
theorem foldR_take {d : List Int} {a : Nat} {l : List Ed} {q : Nat} {e : Ed} (h : l[q]? = some e) : (l.take (q + 1)).foldl (stepR d a) (-1) = stepR d a ((l.take q).foldl (stepR d a) (-1)) e := by
  rw [take_at l q e h, List.foldl_append]; rfl
theorem chkN2_bad {n a b : Int} (h : ¬ (0 ≤ a ∧ a < n ∧ 0 ≤ b ∧ b < n)) : chkN n [a, b] = 9 := by
  unfold chkN
  split
  · rfl
  · exact chkN_bad (by omega)
theorem chkN2_good {n a b : Int} (h : 0 ≤ a ∧ a < n ∧ 0 ≤ b ∧ b < n) : chkN n [a, b] = 0 := by
  unfold chkN
  rw [if_neg (by omega)]
  exact chkN_good (by omega)
set_option maxRecDepth 100000 in
set_option maxHeartbeats 8000000 in
theorem rpath_any (n a b : Int) (v : Value) (l : List Er) (hl : l.length ≤ 9223372036854775807) (w : World) (h : LstR w v l) :
    Calls Try.prog 18 #[.int .i64 n, v, .int .i64 a, .int .i64 b] w fun e w' => ∃ u, e = .returned (.tuple #[u, .int .i64 (ansP n l a b).2.1, .int .i64 (ansP n l a b).2.2]) ∧ OwnI w' w.heap.size u (ansP n l a b).1 ∧ Below w.heap.size w w' := by
  have CK := Lib.hid (rcheck_any n v l hl w h)
  have H := Lib.hid h
  clear h
  by_cases hc : chkR n l = 0
  · by_cases ha : 0 ≤ a ∧ a < n ∧ 0 ≤ b ∧ b < n
    · obtain ⟨N, L, g⟩ := chkR_ok hc
      have hn := g.n_eq
      have hk : chkK n l [a, b] = 0 := by rw [chkK_ok hc, chkN2_good ha]
      obtain ⟨s, rfl⟩ : ∃ s : Nat, a = (s : Int) := ⟨a.toNat, by omega⟩
      obtain ⟨t, rfl⟩ : ∃ t : Nat, b = (t : Int) := ⟨b.toNat, by omega⟩
      have AN := Lib.hid (fun h => ansP_no (a := s) (b := t) g hk h)
      have AY := Lib.hid (fun c h => ansP_yes (a := s) (b := t) (c := c) g hk h)
      rw [hc] at CK
      subst hn
      have HL : Hid (LstD w v L) := by have := H.out; rw [g.l_eq] at this; exact this.down
      have hN := g.le
      have hm := g.many
      have HI := Lib.hid g.inn
      have HW := Lib.hid g.low
      have hsN : s < N := by omega
      have htN : t < N := by omega
      have d1 : decide ((s : Int) < 0) = false := by rw [decide_eq_false_iff_not]; omega
      have d2 : decide ((N : Int) ≤ (s : Int)) = false := by rw [decide_eq_false_iff_not]; omega
      have d3 : decide (N ≤ s) = false := by rw [decide_eq_false_iff_not]; omega
      have d4 : decide ((t : Int) < 0) = false := by rw [decide_eq_false_iff_not]; omega
      have d5 : decide ((N : Int) ≤ (t : Int)) = false := by rw [decide_eq_false_iff_not]; omega
      have d6 : decide (N ≤ t) = false := by rw [decide_eq_false_iff_not]; omega
      clear hc hk H hl g ha
      generalize hR : ansP (N : Int) l (s : Int) (t : Int) = R at AN AY ⊢
      clear hR
      go_enter Try.func18, Try.ntmps18
      go_wp2_with fail
      refine CK.out.mono ?_
      rintro e w' ⟨rfl, rfl⟩
      clear CK
      go_wp2_with fail
      refine (rcosts_any N v L t hN htN hm HI.out HW.out w HL.out).mono ?_
      rintro e w2 ⟨u2, rfl, ow2, b2⟩
      have B2 := Lib.hid b2
      have hcl := costL_length N L t
      have TOP := Lib.hid (fun i => cost_top HI.out htN hN HW.out i)
      have LC := Lib.hid (lc_of HI.out htN hN HW.out)
      rcases ow2.low with ⟨-, hnil⟩ | ⟨g, c, rfl, g0, g1, -⟩
      · rw [hnil] at hcl; simp at hcl; omega
      have G1 := Lib.hid g1
      have CU : Hid (∀ W, Below w2.heap.size w2 W → ∀ i, i < N → W.cell? ⟨g, i, none⟩ = some (.int .i64 ((costL N L t).getD i (-1)))) := by
        intro W hW i hi
        obtain ⟨x, hx⟩ := at_lt (l := costL N L t) (k := i) (by omega)
        rw [getD_of hx]
        have h0 := ow2.below hW
        rw [hcl] at h0
        exact (OwnI.atn hcl h0 hx).1
      rw [hcl]
      clear ow2 b2 d1 d2 d3 d4 d5 d6 g0 g1
      obtain ⟨D, hD⟩ : ∃ D, costL N L t = D := ⟨_, rfl⟩
      have HD := Lib.hid hD
      rw [hD] at TOP CU AN AY hcl
      have gs : (s : Int) < (N : Int) := by omega
      have q0 := CU.out w2 (Below.refl _ _) s hsN
      rcases LC.out.at hN htN HI.out hsN with ⟨e1, e2, -⟩ | ⟨c0, e1, e2, e3, e4, e5⟩
      · rw [hD] at e2
        rw [e2] at q0
        have RR := Lib.hid (AN.out (by rw [e2]; decide))
        clear hD LC AN AY CU TOP e1 e2
        go_wp2_with fail
        go_ret3
        rw [RR.out]
        exact ⟨_, rfl, OwnI.nil _ _, B2.out⟩
      · have WAY := Lib.hid (LC.out.path hN htN HI.out hsN e5 e1 e2 e3)
        have PE := Lib.hid (pathR_eq LC.out hN htN HI.out hsN e5 e1 e2 e3)
        have RR := Lib.hid (AY.out c0 (by rw [← hD]; exact e2))
        have hK2 : c0 % 128 < 64 := by omega
        rw [hD] at e2
        rw [e2] at q0
        have hc0 : c0 ≤ 8796093022208 := by omega
        have h0 : decide ((c0 : Int) < 0) = false := by rw [decide_eq_false_iff_not]; omega
        obtain ⟨lab, hlab⟩ : ∃ lab, labOf (costL N L t) = lab := ⟨_, rfl⟩
        rw [hlab] at WAY PE LC
        obtain ⟨K, hK⟩ : ∃ K, c0 % 128 = K := ⟨_, rfl⟩
        have HK := Lib.hid hK
        rw [hK] at WAY PE hK2
        have hKN : K < N := by omega
        have E2 := Lib.hid e2
        clear hlab hK AN AY e1 e2 e3 e4 e5 hD
        go_wp2_with fail
        clear q0 h0
        have OS : Hid (OwnI (w2.alloc (.cells #[.int .i64 (s : Int)] 3 (0, 0))) w2.heap.size (.slice (some ⟨w2.heap.size, 0, none⟩) 1 1) (pathN L lab s 1)) := ownI_made w2 (Nat.le_refl _) [(s : Int)] (by unfold maxLen; simp)
        go_loopw [13, 14] (fun o at' wr => ∃ j : Nat, at' = .int .i64 ((nd L lab s j : Nat) : Int) ∧ j ≤ K ∧ Hid (lenV o = j + 1) ∧ Hid (OwnI wr w2.heap.size o (pathN L lab s (j + 1))) ∧ Hid (Below w2.heap.size w2 wr)) (fun o _ _ => K + 1 - lenV o)
        case atStart => exact ⟨0, rfl, Nat.zero_le _, Lib.hid rfl, OS, Lib.hid ((Below.refl _ _).alloc (Nat.le_refl _) _)⟩
        case round =>
          clear OS
          obtain ⟨j, rfl, hj, HV, HO, HB⟩ := hrel
          obtain ⟨haN, x, hx, hga, hdx, hxt, hxj⟩ := WAY.out j hj
          obtain ⟨A3, c3, rfl, -⟩ := own_shape HO.out
          have hpl := pathN_len L lab s (j + 1)
          by_cases hlt : j < K
          · have hne : nd L lab s j ≠ t := by
              intro e
              rw [e] at hx
              have := hx.uniq (mn_self L t)
              omega
            have NX : Hid (nxtR L D (nd L lab s j) = ((nd L lab s (j + 1) : Nat) : Int)) := by
              obtain ⟨z', c', -, -, -, -, -, -, -, e8⟩ := LC.out.next hN htN HI.out hx hga hdx hxt (by omega)
              show _ = _
              rw [← HD.out, e8]
              rfl
            have PN := Lib.hid (pathN_succ L lab s (j + 1))
            generalize nd L lab s j = a at haN hx hga hdx hne NX ⊢
            have t1 := bne_true (a := (a : Int)) (b := (t : Int)) (by omega)
            have ga : (a : Int) < (N : Int) := by omega
            have gl1 : (((j + 1 : Nat)) : Int) ≤ (N : Int) := by omega
            have gl2 : j + 1 ≤ N := by omega
            have gl3 : j < N := by omega
            have HXJ := Lib.hid hxj
            rw [hpl] at HV ⊢
            have HO2 : Hid (World.ownsRow wr w2.heap.size 3 1 (.slice A3 (j + 1) c3) (j + 1) (ints (pathN L lab s (j + 1)))) := by have := HO.out; unfold OwnI at this; rw [hpl] at this; exact this
            have HPL := Lib.hid hpl
            obtain ⟨A1, c1, rfl, -, -, -⟩ := id HL.out
            clear hx hga hdx hxt hxj hne HO hpl
            go_wp2_with fail
            clear t1 gl1
            go_loopw [15, 16] (fun mv i wy => ∃ q : Nat, i = .int .i64 q ∧ q ≤ L.length ∧ mv = .int .i64 ((L.take q).foldl (stepR D a) (-1)) ∧ Hid (World.ownsRow wy w2.heap.size 3 1 (.slice A3 (j + 1) c3) (j + 1) (ints (pathN L lab s (j + 1)))) ∧ Hid (Below w2.heap.size w2 wy)) (fun _ i _ => L.length - (intOf i).toNat)
            case atStart => exact ⟨0, rfl, Nat.zero_le _, rfl, HO2, HB⟩
            case round =>
              clear HO2 HB
              obtain ⟨q, rfl, hq, rfl, HO, HB⟩ := hrel
              by_cases hlt2 : q < L.length
              · obtain ⟨e, he⟩ := at_lt hlt2
                obtain ⟨b0, o, rfl, hb0, r0, r1, r2⟩ := three_at de_len (HL.out.below (B2.out.trans (HB.out.mono B2.out.size))) he rfl
                have hin := HI.out e (List.mem_iff_getElem?.2 ⟨q, he⟩)
                have hwt := HW.out e (List.mem_iff_getElem?.2 ⟨q, he⟩)
                have FT := Lib.hid (foldR_take (d := D) (a := a) he)
                obtain ⟨x, y, z⟩ := e
                simp only at r0 r1 r2 hin hwt
                have gq : (q : Int) < (L.length : Int) := by omega
                have gy : (y : Int) < (N : Int) := by omega
                obtain ⟨w7, hw7⟩ : ∃ W, wr.alloc (.cells #[.int .i64 (x : Int), .int .i64 (y : Int), .int .i64 (z : Int)] 45 (0, 0)) = W := ⟨_, rfl⟩
                have b7 : Below wr.heap.size wr w7 := by rw [← hw7]; exact (Below.refl _ _).alloc (Nat.le_refl _) _
                have c7 : w7.heap[wr.heap.size]? = some (.cells #[.int .i64 (x : Int), .int .i64 (y : Int), .int .i64 (z : Int)] 45 (0, 0)) := by rw [← hw7]; exact heap_alloc_new _ _
                have O7 := Lib.hid (own_below HO.out b7)
                have B7 : Hid (Below w2.heap.size w2 w7) := HB.out.trans (b7.mono HB.out.size)
                have p0 : w7.cell? ⟨wr.heap.size, 0, none⟩ = some (.int .i64 (x : Int)) := by rw [cell_of_row _ _ 0 _ _ _ c7]; rfl
                have p1 : w7.cell? ⟨wr.heap.size, 1, none⟩ = some (.int .i64 (y : Int)) := by rw [cell_of_row _ _ 1 _ _ _ c7]; rfl
                have p2 : w7.cell? ⟨wr.heap.size, 2, none⟩ = some (.int .i64 (z : Int)) := by rw [cell_of_row _ _ 2 _ _ _ c7]; rfl
                have x0 := CU.out w7 B7.out y hin.2
                have y0 := CU.out w7 B7.out a haN
                have ty := TOP.out y
                obtain ⟨dy, hdy⟩ : ∃ r, D.getD y (-1) = r := ⟨_, rfl⟩
                obtain ⟨da, hda⟩ : ∃ r, D.getD a (-1) = r := ⟨_, rfl⟩
                obtain ⟨m, hm'⟩ : ∃ r, (L.take q).foldl (stepR D a) (-1) = r := ⟨_, rfl⟩
                rw [hdy] at x0 ty
                rw [hda] at y0
                rw [hm'] at FT ⊢
                have hty : -1 ≤ dy ∧ dy ≤ 8796093022208 := by
                  rcases ty with h | ⟨cc', h, _, h1, _⟩ <;> omega
                obtain ⟨hty1, hty2⟩ := hty
                have SY : Hid (x = a → 0 ≤ dy → dy + (z : Int) * 128 + 1 = da → (m < 0 ∨ (y : Int) < m) → (L.take (q + 1)).foldl (stepR D a) (-1) = (y : Int)) := by
                  intro h1 h2 h3 h4
                  rw [FT.out]
                  exact stepR_yes (e := (x, y, z)) h1 (by show 0 ≤ D.getD y (-1); omega) (by show D.getD y (-1) + (z : Int) * 128 + 1 = D.getD a (-1); omega) h4
                have SN : Hid (¬ (x = a ∧ 0 ≤ dy ∧ dy + (z : Int) * 128 + 1 = da ∧ (m < 0 ∨ (y : Int) < m)) → (L.take (q + 1)).foldl (stepR D a) (-1) = m) := by
                  intro h1
                  rw [FT.out]
                  exact stepR_no (e := (x, y, z)) (by show ¬ (x = a ∧ 0 ≤ D.getD y (-1) ∧ D.getD y (-1) + (z : Int) * 128 + 1 = D.getD a (-1) ∧ (m < 0 ∨ (y : Int) < m)); rw [hdy, hda]; exact h1)
                clear he b7 HO HB FT hdy hda hm' ty hin
                have C7 := Lib.hid c7
                clear c7
                by_cases h1 : x = a
                · have t1 := beq_true (a := (x : Int)) (b := (a : Int)) (by omega)
                  by_cases h2 : 0 ≤ dy
                  · by_cases h3 : dy + (z : Int) * 128 + 1 = da
                    · have t3 := beq_true h3
                      by_cases h4 : m < 0
                      · have E := Lib.hid (SY.out h1 h2 h3 (.inl h4))
                        clear h1 h3
                        go_wp2_with fail
                        clear r0 r1 r2 hw7
                        go_quiet (fail)
                        have O8 : Hid (World.ownsRow (w7.drewN nq) w2.heap.size 3 1 (.slice A3 (j + 1) c3) (j + 1) (ints (pathN L lab s (j + 1)))) := own_below O7.out (below_drewN (Below.refl _ _) nq)
                        have B8 : Hid (Below w2.heap.size w2 (w7.drewN nq)) := below_drewN B7.out nq
                        have p8 : (w7.drewN nq).cell? ⟨wr.heap.size, 1, none⟩ = some (.int .i64 (y : Int)) := p1
                        clear O7 B7 C7 p0 p1 p2 x0 y0 SY SN t1 t3 h2 h4
                        generalize w7.drewN nq = w8 at O8 B8 p8 ⊢
                        go_wp2_with fail
                        go_roundw
                        case rel => exact ⟨q + 1, by go_num, by omega, by rw [E.out], O8, B8⟩
                        case measure => simp [intOf]; omega
                      · have t4 : decide (m < 0) = false := decide_eq_false h4
                        by_cases h5 : (y : Int) < m
                        · have E := Lib.hid (SY.out h1 h2 h3 (.inr h5))
                          clear h1 h3 h4
                          go_wp2_with fail
                          clear r0 r1 r2 hw7
                          go_quiet (fail)
                          have O8 : Hid (World.ownsRow (w7.drewN nq) w2.heap.size 3 1 (.slice A3 (j + 1) c3) (j + 1) (ints (pathN L lab s (j + 1)))) := own_below O7.out (below_drewN (Below.refl _ _) nq)
                          have B8 : Hid (Below w2.heap.size w2 (w7.drewN nq)) := below_drewN B7.out nq
                          have p8 : (w7.drewN nq).cell? ⟨wr.heap.size, 1, none⟩ = some (.int .i64 (y : Int)) := p1
                          clear O7 B7 C7 p0 p1 p2 x0 y0 SY SN t1 t3 h2 t4 h5
                          generalize w7.drewN nq = w8 at O8 B8 p8 ⊢
                          go_wp2_with fail
                          go_roundw
                          case rel => exact ⟨q + 1, by go_num, by omega, by rw [E.out], O8, B8⟩
                          case measure => simp [intOf]; omega
                        · have t5 : decide ((y : Int) < m) = false := decide_eq_false h5
                          have E := Lib.hid (SN.out (by omega))
                          clear h1 h3 h4 h5
                          go_wp2_with fail
                          clear r0 r1 r2 hw7
                          go_quiet (fail)
                          have O8 : Hid (World.ownsRow (w7.drewN nq) w2.heap.size 3 1 (.slice A3 (j + 1) c3) (j + 1) (ints (pathN L lab s (j + 1)))) := own_below O7.out (below_drewN (Below.refl _ _) nq)
                          have B8 : Hid (Below w2.heap.size w2 (w7.drewN nq)) := below_drewN B7.out nq
                          clear O7 B7 C7 p0 p1 p2 x0 y0 SY SN t1 t3 h2 t4 t5
                          generalize w7.drewN nq = w8 at O8 B8 ⊢
                          go_wp2_with fail
                          go_roundw
                          case rel => exact ⟨q + 1, by go_num, by omega, by rw [E.out], O8, B8⟩
                          case measure => simp [intOf]; omega
                    · have t3 := beq_false h3
                      have E := Lib.hid (SN.out (by omega))
                      clear h1 h3
                      go_wp2_with fail
                      clear r0 r1 r2 hw7
                      go_quiet (fail)
                      have O8 : Hid (World.ownsRow (w7.drewN nq) w2.heap.size 3 1 (.slice A3 (j + 1) c3) (j + 1) (ints (pathN L lab s (j + 1)))) := own_below O7.out (below_drewN (Below.refl _ _) nq)
                      have B8 : Hid (Below w2.heap.size w2 (w7.drewN nq)) := below_drewN B7.out nq
                      clear O7 B7 C7 p0 p1 p2 x0 y0 SY SN t1 t3 h2
                      generalize w7.drewN nq = w8 at O8 B8 ⊢
                      go_wp2_with fail
                      go_roundw
                      case rel => exact ⟨q + 1, by go_num, by omega, by rw [E.out], O8, B8⟩
                      case measure => simp [intOf]; omega
                  · have t2 : decide (0 ≤ dy) = false := decide_eq_false h2
                    have E := Lib.hid (SN.out (by omega))
                    clear h1 h2
                    go_wp2_with fail
                    clear r0 r1 r2 hw7
                    go_quiet (fail)
                    have O8 : Hid (World.ownsRow (w7.drewN nq) w2.heap.size 3 1 (.slice A3 (j + 1) c3) (j + 1) (ints (pathN L lab s (j + 1)))) := own_below O7.out (below_drewN (Below.refl _ _) nq)
                    have B8 : Hid (Below w2.heap.size w2 (w7.drewN nq)) := below_drewN B7.out nq
                    clear O7 B7 C7 p0 p1 p2 x0 y0 SY SN t1 t2
                    generalize w7.drewN nq = w8 at O8 B8 ⊢
                    go_wp2_with fail
                    go_roundw
                    case rel => exact ⟨q + 1, by go_num, by omega, by rw [E.out], O8, B8⟩
                    case measure => simp [intOf]; omega
                · have t1 := beq_false (a := (x : Int)) (b := (a : Int)) (by omega)
                  have E := Lib.hid (SN.out (by omega))
                  clear h1
                  go_wp2_with fail
                  clear r0 r1 r2 hw7
                  go_quiet (fail)
                  have O8 : Hid (World.ownsRow (w7.drewN nq) w2.heap.size 3 1 (.slice A3 (j + 1) c3) (j + 1) (ints (pathN L lab s (j + 1)))) := own_below O7.out (below_drewN (Below.refl _ _) nq)
                  have B8 : Hid (Below w2.heap.size w2 (w7.drewN nq)) := below_drewN B7.out nq
                  clear O7 B7 C7 p0 p1 p2 x0 y0 SY SN t1
                  generalize w7.drewN nq = w8 at O8 B8 ⊢
                  go_wp2_with fail
                  go_roundw
                  case rel => exact ⟨q + 1, by go_num, by omega, by rw [E.out], O8, B8⟩
                  case measure => simp [intOf]; omega
              · have d0 : decide (q < L.length) = false := by rw [decide_eq_false_iff_not]; exact hlt2
                have E : Hid ((L.take q).foldl (stepR D a) (-1) = ((nd L lab s (j + 1) : Nat) : Int)) := by
                  show _ = _
                  rw [List.take_of_length_le (by omega)]
                  exact NX.out
                rw [E.out]
                have hz := HB.out.size
                clear hlt2 E NX
                go_wp2_with (at_builtin; refine app_int _ rfl (.tmp 113) (.tmp 115) rfl w2.heap.size _ (pathN L lab s (j + 1)) _ rfl (World.ownsRow.alloc (show World.ownsRow wr w2.heap.size 3 1 _ (pathN L lab s (j + 1)).length (ints (pathN L lab s (j + 1))) by rw [HPL.out]; exact HO.out) _) wr.heap.size _ (heap_alloc_new _ _) rfl rfl (by simp; omega) (by rw [HPL.out]; omega) ?_; intro v1 w9 own1 b1; have O9 := Lib.hid own1; have B9 : Hid (Below w2.heap.size w2 w9) := (HB.out.alloc hz _).trans b1; clear own1 b1)
                have O10 : Hid (OwnI w9 w2.heap.size v1 (pathN L lab s (j + 1 + 1))) := by rw [PN.out]; exact O9.out
                have V10 : Hid (lenV v1 = j + 1 + 1) := by
                  obtain ⟨A5, c5, rfl, -⟩ := own_shape O10.out
                  rw [pathN_len]
                  rfl
                clear O9 PN HO HB
                go_wp2_with fail
                go_roundw
                case rel => exact ⟨j + 1, rfl, by omega, V10, O10, B9⟩
                case measure => rw [V10.out]; simp only [lenV]; omega
          · have hjK : j = K := by omega
            have heq : nd L lab s j = t := mn_zero HI.out htN hN hx (by omega)
            have t1 := neq_false (a := (t : Int)) rfl
            rw [heq]
            have q0 := CU.out wr HB.out s hsN
            rw [E2.out] at q0
            have KO : Hid (OwnI wr w.heap.size (.slice A3 (pathN L lab s (j + 1)).length c3) R.1 ∧ Below w.heap.size w wr) := by
              refine ⟨?_, B2.out.trans (HB.out.mono B2.out.size)⟩
              have h1 := HO.out
              rw [RR.out]
              show OwnI _ _ _ (pathR L D s (c0 % 128 + 1))
              rw [HK.out, ← HD.out, PE.out, ← hjK]
              exact own_down h1 B2.out.size
            rw [hpl] at KO ⊢
            clear hlt hx hga hdx hxt hxj HO HV hpl heq HB hjK
            go_wp2_with fail
            go_quiet (fail)
            have K2 : Hid (OwnI (wr.drewN nq) w.heap.size (.slice A3 (j + 1) c3) R.1 ∧ Below w.heap.size w (wr.drewN nq)) := ⟨KO.out.1.below (below_drewN (Below.refl _ _) nq), below_drewN KO.out.2 nq⟩
            clear KO q0
            generalize wr.drewN nq = w8 at K2 ⊢
            go_wp2_with fail
            go_ret3
            refine ⟨_, ?_, K2.out⟩
            rw [RR.out]
            first | rfl | (simp) | trace_state
    · have hk : chkK n l [a, b] = 9 := by rw [chkK_ok hc, chkN2_bad ha]
      have A := Lib.hid (ansP_bad (n := n) (l := l) (a := a) (b := b) (by rw [hk]; decide))
      rw [hk] at A
      rw [hc] at CK
      clear hc H hl hk
      by_cases h1 : a < 0
      · clear ha
        go_enter Try.func18, Try.ntmps18
        go_wp2_with fail
        refine CK.out.mono ?_
        rintro e w' ⟨rfl, rfl⟩
        clear CK
        go_wp2_with fail
        go_ret3
        rw [A.out]
        exact ⟨_, rfl, OwnI.nil _ _, Below.refl _ _⟩
      have d1 : decide (a < 0) = false := decide_eq_false h1
      by_cases h2 : n ≤ a
      · clear ha h1
        go_enter Try.func18, Try.ntmps18
        go_wp2_with fail
        refine CK.out.mono ?_
        rintro e w' ⟨rfl, rfl⟩
        clear CK
        go_wp2_with fail
        go_ret3
        rw [A.out]
        exact ⟨_, rfl, OwnI.nil _ _, Below.refl _ _⟩
      have d2 : decide (n ≤ a) = false := decide_eq_false h2
      by_cases h3 : b < 0
      · clear ha h1 h2
        go_enter Try.func18, Try.ntmps18
        go_wp2_with fail
        refine CK.out.mono ?_
        rintro e w' ⟨rfl, rfl⟩
        clear CK
        go_wp2_with fail
        go_ret3
        rw [A.out]
        exact ⟨_, rfl, OwnI.nil _ _, Below.refl _ _⟩
      have d3 : decide (b < 0) = false := decide_eq_false h3
      have h4 : n ≤ b := by omega
      clear ha h1 h2 h3
      go_enter Try.func18, Try.ntmps18
      go_wp2_with fail
      refine CK.out.mono ?_
      rintro e w' ⟨rfl, rfl⟩
      clear CK
      go_wp2_with fail
      go_ret3
      rw [A.out]
      exact ⟨_, rfl, OwnI.nil _ _, Below.refl _ _⟩
  · have hk : chkK n l [a, b] = chkR n l := chkK_bad hc
    have A := Lib.hid (ansP_bad (n := n) (l := l) (a := a) (b := b) (by rw [hk]; exact hc))
    have t := bne_true (a := chkR n l) (b := 0) hc
    rw [hk] at A
    generalize chkR n l = q at CK t A ⊢
    clear hc H hl hk
    go_enter Try.func18, Try.ntmps18
    go_wp2_with fail
    refine CK.out.mono ?_
    rintro e w' ⟨rfl, rfl⟩
    clear CK
    go_wp2_with fail
    go_ret3
    rw [A.out]
    exact ⟨_, rfl, OwnI.nil _ _, Below.refl _ _⟩
end Go.Proofs.Ytahbgafjljfndaa
