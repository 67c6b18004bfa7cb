/-
  The law ShortestWalks: it answers true for every input; nothing that existed before the call has changed behind it. Condition: ends of 64 bits.
-/
import Derived.Test.YtahbgafjljfndaaTWlk
namespace Go.Proofs.Ytahbgafjljfndaa
open Go.RowKit

/-! ### The way -/
theorem nd_apart {L : List Ed} {lab : List Ct} {s t K : Nat} (W : ∀ j, j ≤ K → ∃ x : Nat, Mn 128 L t (nd L lab s j) x ∧ x % 128 + j = K) {i j : Nat} (hij : j < i) (hi : i ≤ K) : nd L lab s i ≠ nd L lab s j := by
  obtain ⟨x, hx, e⟩ := W i hi
  obtain ⟨y, hy, e'⟩ := W j (by omega)
  intro h
  rw [h] at hx
  have := hx.uniq hy
  omega
theorem dst_way {N : Nat} {L : List Ed} (hl : Inn L N) (hn : N ≤ 64) (hw : ∀ e ∈ L, e.2.2 ≤ 1073741824) {s t c : Nat} (hs : s < N) (ht : t < N) (h : Mn 128 L t s c) : dst N L s t = ((c / 128 : Nat) : Int) := by
  rcases dst_is hl hn hw hs ht with ⟨_, hno⟩ | ⟨W, h1, hd, _⟩
  · obtain ⟨k, hk⟩ := (h.dist hl ht (by omega)).1.1
    exact absurd hk (hno _ _)
  · rw [h1, hd.uniq (h.dist hl ht (by omega)).1]
theorem dst_none {N : Nat} {L : List Ed} (hl : Inn L N) (hn : N ≤ 64) (hw : ∀ e ∈ L, e.2.2 ≤ 1073741824) {s t : Nat} (hs : s < N) (ht : t < N) (h : ∀ k W, ¬ Wl L t k s W) : dst N L s t = -1 := by
  rcases dst_is hl hn hw hs ht with ⟨h1, _⟩ | ⟨W, _, hd, _⟩
  · exact h1
  · obtain ⟨k, hk⟩ := hd.1
    exact absurd hk (h _ _)
set_option maxRecDepth 100000 in
set_option maxHeartbeats 8000000 in
theorem walk_law (n : Int) (v : Value) (l : List Er) (hl : l.length ≤ 9223372036854775807) (_ : OkR l) (a : Int) (h1 : -9223372036854775808 ≤ a) (h2 : a ≤ 9223372036854775807) (w : World) (h : LstR w v l) : Calls Try.prog 8 #[.int .i64 n, v, .int .i64 a] w fun e w' => e = .returned (.bool true) ∧ Below w.heap.size w w' := by
  have CK := Lib.hid (rcheck_any n v l hl w h)
  have H := Lib.hid h
  obtain ⟨A, c, rfl, -, -, -⟩ := h
  by_cases h4 : 400 < l.length
  · have g4 : (400 : Int) < (l.length : Int) := by omega
    clear CK h4
    go_enter Try.func8, Try.ntmps8
    go_wp2_with fail
    refine (ex_any w).mono ?_
    rintro e w1 ⟨rfl, b1⟩
    go_wp2_with fail
    go_ret
    exact ⟨rfl, b1⟩
  have g4 : decide ((400 : Int) < (l.length : Int)) = false := by rw [decide_eq_false_iff_not]; omega
  by_cases hc : chkR n l = 0
  · obtain ⟨N, L, g⟩ := chkR_ok hc
    rw [hc] at CK
    by_cases h5 : a.tdiv 100 < 0
    · clear h4 hc g
      go_enter Try.func8, Try.ntmps8
      go_wp2_with fail
      refine CK.out.mono ?_
      rintro e w' ⟨rfl, rfl⟩
      clear CK
      go_wp2_with fail
      refine (ex_any w).mono ?_
      rintro e w1 ⟨rfl, b1⟩
      go_wp2_with fail
      go_ret
      exact ⟨rfl, b1⟩
    have d5 : decide (a.tdiv 100 < 0) = false := decide_eq_false h5
    by_cases h6 : n ≤ a.tdiv 100
    · clear h4 hc g h5
      go_enter Try.func8, Try.ntmps8
      go_wp2_with fail
      refine CK.out.mono ?_
      rintro e w' ⟨rfl, rfl⟩
      clear CK
      go_wp2_with fail
      refine (ex_any w).mono ?_
      rintro e w1 ⟨rfl, b1⟩
      go_wp2_with fail
      go_ret
      exact ⟨rfl, b1⟩
    have d6 : decide (n ≤ a.tdiv 100) = false := decide_eq_false h6
    by_cases h7 : a.tmod 100 < 0
    · clear h4 hc g h5 h6
      go_enter Try.func8, Try.ntmps8
      go_wp2_with fail
      refine CK.out.mono ?_
      rintro e w' ⟨rfl, rfl⟩
      clear CK
      go_wp2_with fail
      refine (ex_any w).mono ?_
      rintro e w1 ⟨rfl, b1⟩
      go_wp2_with fail
      go_ret
      exact ⟨rfl, b1⟩
    have d7 : decide (a.tmod 100 < 0) = false := decide_eq_false h7
    by_cases h8 : n ≤ a.tmod 100
    · clear h4 hc g h5 h6 h7
      go_enter Try.func8, Try.ntmps8
      go_wp2_with fail
      refine CK.out.mono ?_
      rintro e w' ⟨rfl, rfl⟩
      clear CK
      go_wp2_with fail
      refine (ex_any w).mono ?_
      rintro e w1 ⟨rfl, b1⟩
      go_wp2_with fail
      go_ret
      exact ⟨rfl, b1⟩
    have d8 : decide (n ≤ a.tmod 100) = false := decide_eq_false h8
    have hk2 : chkN n [a.tdiv 100, a.tmod 100] = 0 := chkN2_good (by omega)
    have hk1 : chkN n [a.tdiv 100] = 0 := chkN_good (by omega)
    have TO := Lib.hid (fun W (hb : Below w.heap.size w W) => to_any (.slice A l.length c) l (by omega) W (H.out.below hb))
    have KP := Lib.hid (fun u W (hu : LstR W u l) => kpath_any n (a.tdiv 100) (a.tmod 100) u l hl W hu)
    have KD := Lib.hid (fun u W (hu : LstR W u l) => kdist_any n (a.tdiv 100) u l hl W hu)
    have hck2 : chkK n l [a.tdiv 100, a.tmod 100] = 0 := by rw [chkK_ok hc, hk2]
    have hck1 : chkK n l [a.tdiv 100] = 0 := by rw [chkK_ok hc, hk1]
    have HG := Lib.hid g
    have HX : Hid (0 ≤ a.tdiv 100 ∧ a.tdiv 100 < n ∧ 0 ≤ a.tmod 100 ∧ a.tmod 100 < n) := ⟨by omega, by omega, by omega, by omega⟩
    have HK1 := Lib.hid hck1
    have HK2 := Lib.hid hck2
    clear h4 h5 h6 h7 h8 hk1 hk2 hck1 hck2 g hc
    go_enter Try.func8, Try.ntmps8
    go_wp2_with fail
    refine CK.out.mono ?_
    rintro e w' ⟨rfl, rfl⟩
    clear CK
    go_wp2_with fail
    clear d5 d6 d7 d8 g4
    generalize a.tdiv 100 = xa at *
    generalize a.tmod 100 = xb at *
    obtain ⟨p1, p2, p3, p4⟩ := HX.out
    have g := HG.out
    have hn := g.n_eq
    have hN := g.le
    have HI := Lib.hid g.inn
    have HW := Lib.hid g.low
    have HLE := Lib.hid g.l_eq
    have hm4 := g.many
    obtain ⟨s, rfl⟩ : ∃ s : Nat, xa = (s : Int) := ⟨xa.toNat, by omega⟩
    obtain ⟨t, rfl⟩ : ∃ t : Nat, xb = (t : Int) := ⟨xb.toNat, by omega⟩
    have AN := Lib.hid (fun h => ansP_no (a := s) (b := t) g HK2.out h)
    have AY := Lib.hid (fun c h => ansP_yes (a := s) (b := t) (c := c) g HK2.out h)
    have AD := Lib.hid (ansD_ok g HK1.out)
    rw [HK1.out] at KD
    subst hn
    have hsN : s < N := by omega
    have htN : t < N := by omega
    clear HX HG p1 p2 p3 p4 g HK1 HK2 h1 h2
    refine (TO.out w (Below.refl _ _)).mono ?_
    rintro e w1 ⟨u1, rfl, l1, b1⟩
    have B1 := Lib.hid b1
    have L1 := Lib.hid l1
    clear b1 l1
    go_wp2_with fail
    refine (KP.out u1 w1 L1.out).mono ?_
    rintro e w2 ⟨u2, rfl, o2, b2⟩
    have B2 : Hid (Below w.heap.size w w2) := B1.out.trans (b2.mono B1.out.size)
    have P2 : Hid (LstI w2 u2 (ansP (N : Int) l (s : Int) (t : Int)).1) := OwnI.lst o2
    clear o2 b2 B1 L1 KP
    generalize hR : ansP (N : Int) l (s : Int) (t : Int) = R at AN AY P2 ⊢
    clear hR
    go_wp2_with fail
    refine (TO.out w2 B2.out).mono ?_
    rintro e w3 ⟨u3, rfl, l3, b3⟩
    have B3 : Hid (Below w.heap.size w w3) := B2.out.trans (b3.mono B2.out.size)
    have L3 := Lib.hid l3
    have P3 := Lib.hid (P2.out.below b3)
    clear l3 b3 B2 P2 TO
    go_wp2_with fail
    refine (KD.out u3 w3 L3.out).mono ?_
    rintro e w4 ⟨u4, rfl, o4, b4⟩
    rw [AD.out] at o4
    have B4 : Hid (Below w.heap.size w w4) := B3.out.trans (b4.mono B3.out.size)
    have P4 := Lib.hid (P3.out.below b4)
    have D4 : Hid (LstI w4 u4 (distL N L s)) := OwnI.lst o4
    have hdl := distL_length N L s
    clear o4 b4 B3 P3 L3 KD AD
    obtain ⟨Ad, cd, rfl, -, -, -⟩ := id D4.out
    obtain ⟨bd, od, rfl, hbd, m0⟩ := int_cell D4.out (dst_at (N := N) (L := L) (i := s) htN)
    rw [hdl]
    have t0 := neq_false (a := (N : Int)) rfl
    have gt : (t : Int) < (N : Int) := by omega
    have LC := Lib.hid (lc_of HI.out htN hN HW.out)
    rcases LC.out.at hN htN HI.out hsN with ⟨e1, e2, e3⟩ | ⟨c0, e1, e2, e3, e4, e5⟩
    · have RR := Lib.hid (AN.out (by rw [e2]; decide))
      rw [dst_none HI.out hN HW.out hsN htN e3] at m0
      clear AN AY LC e1 e2 e3 D4 P4 hdl
      obtain ⟨R1, R2, R3⟩ := R
      have r3 : R3 = 7 := by have := congrArg (fun x => x.2.2) RR.out; exact this
      subst r3
      clear RR
      go_wp2_with fail
      refine (ex_any w4).mono ?_
      rintro e w5 ⟨rfl, b5⟩
      have B5 := Lib.hid (B4.out.trans (b5.mono B4.out.size))
      clear b5 B4
      go_wp2_with fail
      go_ret
      exact ⟨rfl, B5.out⟩
    · have RR := Lib.hid (AY.out c0 e2)
      rw [dst_way HI.out hN HW.out hsN htN e5] at m0
      have WAY := Lib.hid (LC.out.path hN htN HI.out hsN e5 e1 e2 e3)
      have NXT := Lib.hid (fun a c hm ha hd hc h0 => LC.out.next hN htN HI.out (a := a) (c := c) hm ha hd hc h0)
      have PE := Lib.hid (pathR_eq LC.out hN htN HI.out hsN e5 e1 e2 e3)
      have hM0 := Lib.hid e5
      have hbig := Lib.hid e3
      obtain ⟨K, hK⟩ : ∃ K, c0 % 128 = K := ⟨_, rfl⟩
      have hKN : K < N := by omega
      have HK := Lib.hid hK
      rw [hK] at WAY PE RR
      rw [PE.out] at RR
      obtain ⟨R1, R2, R3⟩ := R
      have r1 : R1 = pathN L (labOf (costL N L t)) s (K + 1) := congrArg (fun x => x.1) RR.out
      have r2 : R2 = ((c0 / 128 : Nat) : Int) := congrArg (fun x => x.2.1) RR.out
      have r3 : R3 = 0 := congrArg (fun x => x.2.2) RR.out
      subst r1 r2 r3
      generalize labOf (costL N L t) = lab at *
      obtain ⟨Ap, cp, rfl, -, -, -⟩ := id P4.out
      have hpl := pathN_len L lab s (K + 1)
      obtain ⟨bp, op, rfl, hbp, m1⟩ := int_cell P4.out (pathN_at L lab s (K + 1) (j := 0) (by omega))
      have PC : Hid (∀ W, Below w4.heap.size w4 W → ∀ j, j < K + 1 → W.cell? ⟨bp, op + j, none⟩ = some (.int .i64 ((nd L lab s j : Nat) : Int))) := by
        intro W hW j hj
        obtain ⟨b', o', e, _, m⟩ := int_cell (P4.out.below hW) (pathN_at L lab s (K + 1) (j := j) hj)
        cases e
        exact m
      have m2 := PC.out w4 (Below.refl _ _) K (by omega)
      have hlast : nd L lab s K = t := by
        obtain ⟨_, x, hx, _, _, _, hxk⟩ := WAY.out K (Nat.le_refl _)
        exact mn_zero HI.out htN hN hx (by omega)
      rw [hlast] at m2
      have m1' : w4.cell? ⟨bp, op, none⟩ = some (.int .i64 (s : Int)) := m1
      obtain ⟨cl, hcl⟩ : ∃ x, c0 / 128 = x := ⟨_, rfl⟩
      have HCL := Lib.hid hcl
      rw [hpl] at P4 ⊢
      rw [hcl] at m0 ⊢
      clear AN AY LC e1 e2 e3 e4 e5 D4 hdl RR PE hK hcl hpl
      have g1 : ((K : Int) + 1 == 0) = false := beq_false (by omega)
      have g2 : decide ((N : Int) < (K : Int) + 1) = false := by rw [decide_eq_false_iff_not]; omega
      have g3 : (K : Int) + 1 ≤ (N : Int) := by omega
      go_wp2_with fail
      have HLD : Hid (LstD w4 (.slice A l.length c) L) := by
        have h0 := H.out.below B4.out
        exact LstG.down (by rw [← HLE.out]; exact h0)
      clear g1 g2 g3 m0 m1 m1' m2 t0 gt hlast H HLE
      go_loopw [14, 15] (fun sv iv wr => ∃ (i S : Nat), iv = .int .i64 (i : Int) ∧ sv = .int .i64 (S : Int) ∧ i ≤ K + 1 ∧ Hid (∃ x, Mn 128 L t (nd L lab s (i - 1)) x ∧ c0 = x + 128 * S + (i - 1)) ∧ Hid (Below w4.heap.size w4 wr)) (fun _ iv _ => K + 1 - (intOf iv).toNat)
      case atStart => exact ⟨0, 0, rfl, rfl, Nat.zero_le _, ⟨c0, hM0.out, rfl⟩, Lib.hid (Below.refl _ _)⟩
      case round =>
        obtain ⟨i, S, rfl, rfl, hi, HS, HB⟩ := hrel
        by_cases hlt : i < K + 1
        · cases i with
          | zero =>
            have gi : (0 : Int) < (K : Int) + 1 := by omega
            go_wp2_with fail
            go_loopw [16] (fun kv wx => kv = .int .i64 0 ∧ wx = wr) (fun _ _ => 0)
            case atStart => exact ⟨rfl, rfl⟩
            case round =>
              obtain ⟨rfl, rfl⟩ := hrel
              go_wp2_with fail
              go_roundw
              case rel => exact ⟨1, S, by go_num, rfl, by omega, HS, HB⟩
              case measure => simp [intOf]
          | succ j =>
            have gi : (j : Int) + 1 < (K : Int) + 1 := by omega
            have gi2 : (j : Int) < (K : Int) := by omega
            have hSb : S ≤ 68719476736 := by
              obtain ⟨x, _, e⟩ := HS.out
              have := hbig.out
              omega
            go_wp2_with fail
            go_loopw [16] (fun kv wx => ∃ k : Nat, kv = .int .i64 (k : Int) ∧ k ≤ j + 1 ∧ Hid (Below w4.heap.size w4 wx)) (fun kv _ => j + 1 - (intOf kv).toNat)
            case atStart => exact ⟨0, rfl, Nat.zero_le _, HB⟩
            case round =>
              clear HB
              obtain ⟨k, rfl, hk, HB⟩ := hrel
              by_cases hlt2 : k < j + 1
              · have gk : (k : Int) < (j : Int) + 1 := by omega
                have gk2 : (k : Int) < (K : Int) + 1 := by omega
                have x1 := PC.out wr HB.out (j + 1) (by omega)
                have x2 := PC.out wr HB.out k (by omega)
                have ne := nd_apart (L := L) (lab := lab) (s := s) (t := t) (K := K) (fun j hj => by obtain ⟨_, x, hx, _, _, _, e⟩ := WAY.out j hj; exact ⟨x, hx, e⟩) hlt2 (by omega)
                generalize nd L lab s (j + 1) = y1 at x1 ne
                generalize nd L lab s k = y2 at x2 ne
                have t1 := beq_false (a := (y1 : Int)) (b := (y2 : Int)) (by omega)
                clear ne
                go_wp2_with fail
                go_quiet (fail)
                have B3 : Hid (Below w4.heap.size w4 (wr.drewN nq)) := below_drewN HB.out nq
                clear HB x1 x2 t1
                generalize wr.drewN nq = w8 at B3 ⊢
                go_wp2_with fail
                go_roundw
                case rel => exact ⟨k + 1, by go_num, by omega, B3⟩
                case measure => simp [intOf]; omega
              · have d0 : decide ((k : Int) < (j : Int) + 1) = false := by rw [decide_eq_false_iff_not]; omega
                have x1 := PC.out wr HB.out (j + 1) (by omega)
                have x2 := PC.out wr HB.out j (by omega)
                obtain ⟨hjN, x, hx, hga, hdx, hxt, hxj⟩ := WAY.out j (by omega)
                obtain ⟨z, c', q1, q2, q3, q4, q5, -, -, -⟩ := NXT.out _ x hx hga hdx hxt (by omega)
                have hz := HW.out _ q1
                simp only at hz
                have LT1 : leastW L (nd L lab s j) (nd L lab s (j + 1)) = (z : Int) := by
                  rw [q3] at hx
                  exact leastW_tight q1 hx q4
                have NS : Hid (∃ x, Mn 128 L t (nd L lab s (j + 1)) x ∧ c0 = x + 128 * (S + z) + (j + 1)) := by
                  obtain ⟨x', hx', e⟩ := HS.out
                  have e2 := hx.uniq hx'
                  refine ⟨c', q4, ?_⟩
                  omega
                have X1 := fun d' os => Go.cell_regrown x1 d' os
                have X2 := fun d' os => Go.cell_regrown x2 d' os
                have C := Lib.hid (fun d' os => Calls.regrown_of (w := wr) (d := d') (os := os) (still (wleast_any (nd L lab s j) (nd L lab s (j + 1)) (.slice A l.length c) L hm4 _ ((HLD.out.below HB.out).below (below_regrown wr d' os)))))
                rw [LT1] at C
                have tz : decide ((z : Int) < 0) = false := by rw [decide_eq_false_iff_not]; omega
                clear hlt2 x1 x2 hx hga hdx hxt hxj q1 q2 q3 q4 q5 LT1 HS hjN
                generalize nd L lab s (j + 1) = y1 at X1 C
                generalize nd L lab s j = y2 at X2 C
                go_wp2_with fail
                refine wp_region_quiet_below (by kernel_rfl) (by kernel_rfl) ?_
                repeat (go_big_quiet_step (with_reducible exact C.out _ _))
                refine wpQuiet_nil ?_
                intro w8 hw8
                have B8 := Lib.hid (regrown_below HB.out hw8)
                clear hw8 HB X1 X2 C
                go_wp2_with fail
                go_roundw
                case rel => exact ⟨j + 1 + 1, S + z, by go_num, by go_num, by omega, NS, B8⟩
                case measure => simp [intOf]; omega
        · have hiK : i = K + 1 := by omega
          subst hiK
          have hS : S = cl := by
            obtain ⟨x, hx, e⟩ := HS.out
            obtain ⟨_, x', hx', _, _, _, hxk⟩ := WAY.out K (Nat.le_refl _)
            rw [Nat.add_sub_cancel] at hx e
            have e2 := hx.uniq hx'
            have e3 := mn_zero HI.out htN hN hx' (by omega)
            rw [e3] at hx
            have e4 := hx.uniq (mn_self L t)
            have e5 := HK.out
            have e6 := HCL.out
            omega
          subst hS
          have t1 := beq_true (a := (S : Int)) rfl
          have d0 : decide ((K : Int) + 1 < (K : Int) + 1) = false := by rw [decide_eq_false_iff_not]; omega
          have B9 : Hid (Below w.heap.size w wr) := B4.out.trans (HB.out.mono B4.out.size)
          clear hlt HS HB P4
          go_wp2_with fail
          refine (ex_any wr).mono ?_
          rintro e w5 ⟨rfl, b5⟩
          have B5 := Lib.hid (B9.out.trans (b5.mono B9.out.size))
          clear b5 B9
          go_wp2_with fail
          go_ret
          exact ⟨rfl, B5.out⟩
  · have t := bne_true (a := chkR n l) (b := 0) hc
    generalize chkR n l = q at CK t
    clear hc h4
    go_enter Try.func8, Try.ntmps8
    go_wp2_with fail
    refine CK.out.mono ?_
    rintro e w' ⟨rfl, rfl⟩
    clear CK
    go_wp2_with fail
    refine (ex_any w).mono ?_
    rintro e w1 ⟨rfl, b1⟩
    go_wp2_with fail
    go_ret
    exact ⟨rfl, b1⟩
end Go.Proofs.Ytahbgafjljfndaa
