/-
  The reference's Distances and All: what each call answers; nothing that existed before the call has changed behind it. Condition: lists of fewer than 2^63 edges.
-/
import Derived.Test.YtahbgafjljfndaaKAll
import Derived.Test.YtahbgafjljfndaaRCos2
namespace Go.Proofs.Ytahbgafjljfndaa
open Go.RowKit

/-- Costs are small. -/
theorem cost_top {L : List Ed} {n b : Nat} (hl : Inn L n) (hb : b < n) (hn : n ≤ 64) (hw : ∀ e ∈ L, e.2.2 ≤ 1073741824) (i : Nat) : (costL n L b).getD i (-1) = -1 ∨ ∃ c : Nat, (costL n L b).getD i (-1) = (c : Int) ∧ Mn 128 L b i c ∧ c / 128 < 68719476736 ∧ c % 128 < n := by
  rcases costL_spec hl hb i with ⟨e, _⟩ | ⟨c, e, h⟩
  · exact .inl e
  · obtain ⟨-, ⟨k, hk, hkn, hwl⟩, -⟩ := h.dist hl hb (by omega)
    have h1 := hwl.bound hw
    have h2 : k * 1073741824 ≤ 63 * 1073741824 := Nat.mul_le_mul_right _ (by omega)
    exact .inr ⟨c, e, h, by omega, by omega⟩
/-- Some elements already turned. -/
def mixL (f : Int → Int) (d : List Int) (k : Nat) : List Int := (d.take k).map f ++ d.drop k
theorem mixL_len (f : Int → Int) (d : List Int) (k : Nat) : (mixL f d k).length = d.length := by unfold mixL; rw [List.length_append, List.length_map, List.length_take, List.length_drop]; omega
theorem mixL_at {f : Int → Int} {d : List Int} {k : Nat} {x : Int} (h : d[k]? = some x) : (mixL f d k)[k]? = some x := by
  have hk := (List.getElem?_eq_some_iff.1 h).1
  unfold mixL
  rw [List.getElem?_append_right (by rw [List.length_map, List.length_take]; omega), List.length_map, List.length_take, Nat.min_eq_left (by omega), Nat.sub_self, List.getElem?_drop, Nat.add_zero, h]
theorem mixL_set {f : Int → Int} {d : List Int} {k : Nat} {x : Int} (h : d[k]? = some x) : (mixL f d k).set k (f x) = mixL f d (k + 1) := by
  have hk := (List.getElem?_eq_some_iff.1 h).1
  unfold mixL
  rw [List.set_append_right _ _ (by rw [List.length_map, List.length_take]; omega), List.length_map, List.length_take, Nat.min_eq_left (by omega), Nat.sub_self, drop_at d k x h, List.set_cons_zero, take_at d k x h, List.map_append, List.append_assoc]
  rfl
theorem mixL_all {f : Int → Int} {d : List Int} : mixL f d d.length = d.map f := by unfold mixL; rw [List.take_length, List.drop_length, List.append_nil]
theorem dist1_neg {x : Int} (h : ¬ 0 ≤ x) : dist1 x = x := by unfold dist1; rw [if_neg h]
theorem dist1_pos {x : Int} (h : 0 ≤ x) : dist1 x = x / 128 := by unfold dist1; rw [if_pos h]
theorem chkN_bad {n a : Int} (h : ¬ (0 ≤ a ∧ a < n)) : chkN n [a] = 9 := by unfold chkN; rw [if_pos (by omega)]
theorem chkN_good {n a : Int} (h : 0 ≤ a ∧ a < n) : chkN n [a] = 0 := by unfold chkN; rw [if_neg (by omega)]; rfl
set_option maxRecDepth 100000 in
set_option maxHeartbeats 8000000 in
theorem rdist_any (n a : Int) (v : Value) (l : List Er) (hl : l.length ≤ 9223372036854775807) (w : World) (h : LstR w v l) :
    Calls Try.prog 13 #[.int .i64 n, v, .int .i64 a] w fun e w' => ∃ u, e = .returned (.tuple #[u, .int .i64 (chkK n l [a])]) ∧ OwnI w' w.heap.size u (ansD n l a) ∧ Below w.heap.size w w' := by
  have CK := Lib.hid (rcheck_any n v l hl w h)
  have H := Lib.hid h
  clear h
  by_cases hc : chkR n l = 0
  · by_cases ha : 0 ≤ a ∧ a < n
    · obtain ⟨N, L, g⟩ := chkR_ok hc
      have hn := g.n_eq
      have hk : chkK n l [a] = 0 := by rw [chkK_ok hc, chkN_good ha]
      obtain ⟨b, rfl⟩ : ∃ b : Nat, a = (b : Int) := ⟨a.toNat, by omega⟩
      have A := Lib.hid (ansD_ok g hk)
      rw [hk]
      rw [hc] at CK
      subst hn
      have HL : Hid (LstD w v L) := by have := H.out; rw [g.l_eq] at this; exact this.down
      have hN := g.le
      have hm := g.many
      have HI := Lib.hid g.inn
      have HW := Lib.hid g.low
      have GT := Lib.hid g.turn
      have htl : (turnL L).length ≤ 4096 := by rw [turn_len]; exact hm
      have hbN : b < N := by omega
      have d1 : decide ((b : Int) < 0) = false := by rw [decide_eq_false_iff_not]; omega
      have d2 : decide ((N : Int) ≤ (b : Int)) = false := by rw [decide_eq_false_iff_not]; omega
      have d3 : decide (N ≤ b) = false := by rw [decide_eq_false_iff_not]; omega
      clear hc hk H hl g ha
      go_enter Try.func13, Try.ntmps13
      go_wp2_with fail
      refine CK.out.mono ?_
      rintro e w' ⟨rfl, rfl⟩
      clear CK
      go_wp2_with fail
      refine (rturned_any v L hm w HL.out).mono ?_
      rintro e w1 ⟨u1, rfl, ow1, b1⟩
      have B1 := Lib.hid b1
      have L1 : Hid (LstD w1 u1 (turnL L)) := OwnG.lst ow1
      clear ow1 b1 d1 d2 d3
      go_wp2_with fail
      refine (rcosts_any N u1 (turnL L) b hN hbN htl GT.out.1 GT.out.2 w1 L1.out).mono ?_
      rintro e w2 ⟨u2, rfl, ow2, b2⟩
      have B2 : Hid (Below w.heap.size w w2) := B1.out.trans (b2.mono B1.out.size)
      have hcl := costL_length N (turnL L) b
      have TOP := Lib.hid (fun i => cost_top GT.out.1 hbN hN GT.out.2 i)
      rcases ow2.low with ⟨-, hnil⟩ | ⟨g, c, rfl, g0, g1, -⟩
      · rw [hnil] at hcl; simp at hcl; omega
      have hgw : w.heap.size ≤ g := Nat.le_trans B1.out.size g0
      have E : Hid ((costL N (turnL L) b).map dist1 = ansD (N : Int) l (b : Int)) := A.out.symm
      have O2 : Hid (OwnI w2 w1.heap.size (.slice (some ⟨g, 0, none⟩) N c) (mixL dist1 (costL N (turnL L) b) 0)) := by
        have := ow2
        rw [hcl] at this
        exact this
      rw [hcl]
      have HGW := Lib.hid hgw
      clear ow2 b2 B1 L1 g0 g1 hgw
      generalize costL N (turnL L) b = D at hcl TOP E O2 ⊢
      go_wp2_with fail
      go_loopw [10] (fun i wr => ∃ k : Nat, i = .int .i64 k ∧ k ≤ N ∧ Hid (OwnI wr w1.heap.size (.slice (some ⟨g, 0, none⟩) N c) (mixL dist1 D k)) ∧ Hid (Below w.heap.size w wr)) (fun i _ => N - (intOf i).toNat)
      case atStart => exact ⟨0, rfl, Nat.zero_le _, O2, B2⟩
      case round =>
        clear O2 B2
        obtain ⟨k, rfl, hk, HO, HB⟩ := hrel
        by_cases hlt : k < N
        · obtain ⟨x, hx⟩ := at_lt (l := D) (k := k) (by omega)
          have gk : (k : Int) < (N : Int) := by omega
          have hpl : (mixL dist1 D k).length = N := by rw [mixL_len]; exact hcl
          obtain ⟨q0, f0⟩ := OwnI.atn hpl HO.out (mixL_at hx)
          have MS := Lib.hid (mixL_set (f := dist1) hx)
          have tp := TOP.out k
          rw [getD_of hx] at tp
          by_cases h0 : 0 ≤ x
          · obtain ⟨y, rfl⟩ : ∃ y : Nat, x = (y : Int) := ⟨x.toNat, by omega⟩
            have hy : (y : Int) ≤ 8796093022208 := by
              rcases tp with h | ⟨cc', h, _, h1, _⟩ <;> omega
            have hd := dist1_pos h0
            have O3 : Hid (OwnI (wr.setCell ⟨g, k, none⟩ (.int .i64 ((y : Int) / 128))) w1.heap.size (.slice (some ⟨g, 0, none⟩) N c) (mixL dist1 D (k + 1))) := by
              show OwnI _ _ _ _
              rw [← MS.out, hd]
              exact OwnI.putn hpl HO.out k _
            have B3 : Hid (Below w.heap.size w (wr.setCell ⟨g, k, none⟩ (.int .i64 ((y : Int) / 128)))) := HB.out.setCell HGW.out _
            clear hx hpl MS tp hd HO HB
            go_wp2_with fail
            go_roundw
            case rel => exact ⟨k + 1, by go_num, by omega, O3, B3⟩
            case measure => simp [intOf]; omega
          · have h0' : decide (0 ≤ x) = false := decide_eq_false h0
            have O3 : Hid (OwnI wr w1.heap.size (.slice (some ⟨g, 0, none⟩) N c) (mixL dist1 D (k + 1))) := by
              show OwnI _ _ _ _
              rw [← MS.out, dist1_neg h0, set_same _ _ _ (mixL_at hx)]
              exact HO.out
            clear hx hpl MS tp h0 HO
            go_wp2_with fail
            go_roundw
            case rel => exact ⟨k + 1, by go_num, by omega, O3, HB⟩
            case measure => simp [intOf]; omega
        · have d0 : decide (k < N) = false := by rw [decide_eq_false_iff_not]; exact hlt
          have K : Hid (OwnI wr w.heap.size (.slice (some ⟨g, 0, none⟩) N c) (ansD (N : Int) l (b : Int))) := by
            have h1 := HO.out
            rw [show k = D.length by omega, mixL_all, E.out] at h1
            have h2 := h1.2
            refine ⟨h1.1, ?_⟩
            rcases h2 with h | ⟨g', cap, cur, hv, hbg, hr⟩
            · exact .inl h
            · refine .inr ⟨g', cap, cur, hv, ?_, hr⟩
              have e := congrArg Value.ownBlock hv
              simp [Value.ownBlock] at e
              rw [← e]
              exact HGW.out
          clear hlt HO
          go_wp2_with fail
          go_ret2
          exact ⟨_, rfl, K.out, HB.out⟩
    · have hk : chkK n l [a] = 9 := by rw [chkK_ok hc, chkN_bad ha]
      have A := Lib.hid (ansD_bad (n := n) (l := l) (a := a) (by rw [hk]; decide))
      rw [hk]
      rw [hc] at CK
      clear hc H hl hk
      by_cases h1 : a < 0
      · clear ha
        go_enter Try.func13, Try.ntmps13
        go_wp2_with fail
        refine CK.out.mono ?_
        rintro e w' ⟨rfl, rfl⟩
        clear CK
        go_wp2_with fail
        go_ret2
        exact ⟨_, rfl, by rw [A.out]; exact OwnI.nil _ _, Below.refl _ _⟩
      · have d1 : decide (a < 0) = false := decide_eq_false h1
        have d2 : n ≤ a := by omega
        clear ha h1
        go_enter Try.func13, Try.ntmps13
        go_wp2_with fail
        refine CK.out.mono ?_
        rintro e w' ⟨rfl, rfl⟩
        clear CK
        go_wp2_with fail
        go_ret2
        exact ⟨_, rfl, by rw [A.out]; exact OwnI.nil _ _, Below.refl _ _⟩
  · have hk : chkK n l [a] = chkR n l := chkK_bad hc
    have A := Lib.hid (ansD_bad (n := n) (l := l) (a := a) (by rw [hk]; exact hc))
    have t := bne_true (a := chkR n l) (b := 0) hc
    rw [hk]
    generalize chkR n l = q at CK t ⊢
    clear hc H hl hk
    go_enter Try.func13, Try.ntmps13
    go_wp2_with fail
    refine CK.out.mono ?_
    rintro e w' ⟨rfl, rfl⟩
    clear CK
    go_wp2_with fail
    go_ret2
    exact ⟨_, rfl, by rw [A.out]; exact OwnI.nil _ _, Below.refl _ _⟩

/-! ### All -/
theorem Rows2.grown {w w' : World} {g base : Nat} {v : Value} {us : List SlT} {ts : List SlT} {ls : List (List Int)} (h : Rows2 w g ts ls) (o : OwnL w base v us) (hg : w.grownBy w' v.ownBlock) : Rows2 w' g ts ls := by
  refine ⟨h.1, fun i t l ht hl => ?_⟩
  have hi := h.2 i t l ht hl
  refine ⟨hi.1, ?_⟩
  rcases hi.2 with h0 | ⟨b, cap, cur, hv, hbg, hb, hr⟩
  · exact .inl h0
  · refine .inr ⟨b, cap, cur, hv, hbg, (hg.block b (lt_of_heap hb) fun e => ?_).trans hb, hr⟩
    have t1 : Tag w b 25 := OwnG.block o e.symm
    have t2 : Tag w b 3 := ⟨_, _, hb⟩
    have := t1.uniq t2
    cases this
set_option maxRecDepth 100000 in
set_option maxHeartbeats 8000000 in
theorem rall_any (n : Int) (v : Value) (l : List Er) (hl : l.length ≤ 9223372036854775807) (w : World) (h : LstR w v l) :
    Calls Try.prog 16 #[.int .i64 n, v] w fun e w' => ∃ u, e = .returned (.tuple #[u, .int .i64 (chkR n l)]) ∧ LL w' u (ansA n l) ∧ Below w.heap.size w w' := by
  have CK := Lib.hid (rcheck_any n v l hl w h)
  have H := Lib.hid h
  clear h
  by_cases hc : chkR n l = 0
  · obtain ⟨N, L, g⟩ := chkR_ok hc
    have hn := g.n_eq
    have A := Lib.hid (ansA_ok g hc)
    have KK : Hid (∀ k : Nat, k < N → chkK n l [(k : Int)] = 0 ∧ ansD n l (k : Int) = distL N L k) := by
      intro k hk
      have h1 : chkK n l [(k : Int)] = 0 := by rw [chkK_ok hc, chkN_good (by omega)]
      exact ⟨h1, ansD_ok g h1⟩
    rw [hc] at CK ⊢
    subst hn
    have hN := g.le
    clear hc g
    go_enter Try.func16, Try.ntmps16
    go_wp2_with fail
    refine CK.out.mono ?_
    rintro e w' ⟨rfl, rfl⟩
    clear CK
    go_wp2_with fail
    go_loopw [7, 8] (fun u i wr => ∃ (k : Nat) (ts : List SlT), i = .int .i64 k ∧ k ≤ N ∧ Hid (Rows2 wr w.heap.size ts ((List.range k).map (distL N L))) ∧ Hid (OwnL wr w.heap.size u ts) ∧ Hid (Below w.heap.size w wr)) (fun _ i _ => N - (intOf i).toNat)
    case atStart => exact ⟨0, [], rfl, Nat.zero_le _, Lib.hid ⟨rfl, fun i t l ht => by simp at ht⟩, Lib.hid (OwnG.nil _ _ _ _ _), Lib.hid (Below.refl _ _)⟩
    case round =>
      obtain ⟨k, ts, rfl, hk, HR, HO, HB⟩ := hrel
      have htl : ts.length = k := by have := HR.out.1; rw [List.length_map, List.length_range] at this; exact this
      by_cases hlt : k < N
      · have gk : (k : Int) < (N : Int) := by omega
        have DC := Lib.hid (rdist_any (N : Int) (k : Int) v l hl wr (H.out.below HB.out))
        obtain ⟨e1, e2⟩ := KK.out k hlt
        rw [e1, e2] at DC
        have HTL := Lib.hid htl
        clear htl e1 e2
        go_wp2_with fail
        refine DC.out.mono ?_
        rintro e w5 ⟨u, rfl, ow, b5⟩
        obtain ⟨A5, c5, rfl, -⟩ := own_shape ow
        have O5 := Lib.hid (HO.out.below b5)
        have R5 : Hid (Rows2 w5 w.heap.size (ts ++ [((A5, (distL N L k).length, c5) : SlT)]) ((List.range (k + 1)).map (distL N L))) := by
          show Rows2 _ _ _ _
          rw [rows_take]
          exact (HR.out.below b5).snoc (t := (A5, (distL N L k).length, c5)) (own_down (show World.ownsRow w5 wr.heap.size 3 1 (svV (A5, (distL N L k).length, c5)) _ _ from ow) HB.out.size)
        have B5 : Hid (Below w.heap.size w w5) := HB.out.trans (b5.mono HB.out.size)
        have hz := B5.out.size
        clear ow b5 HR HO HB DC
        go_wp2_with (at_builtin; refine appG_one sv_len sv_one (by decide) Try.underlying34 info_sl rfl (by decide) _ rfl (.tmp 29) (.tmp 31) rfl w.heap.size _ ts (A5, (distL N L k).length, c5) rfl (World.ownsRow.alloc O5.out _) w5.heap.size _ (heap_alloc_new _ _) rfl rfl (by simp; omega) (by rw [HTL.out]; omega) ?_; intro v1 w6 own1 b1 g1 _; have R6 := Lib.hid ((R5.out.below ((Below.refl _ _).alloc (Nat.le_refl _) _)).grown (World.ownsRow.alloc O5.out _) g1); have O6 := Lib.hid own1; have B6 : Hid (Below w.heap.size w w6) := (B5.out.alloc hz _).trans b1; clear own1 b1 g1)
        go_roundw
        case rel => exact ⟨k + 1, _, by go_num, by omega, R6, O6, B6⟩
        case measure => simp [intOf]; omega
      · have d : decide (k < N) = false := by rw [decide_eq_false_iff_not]; exact hlt
        have K : Hid (LL wr u7 (ansA (N : Int) l) ∧ Below w.heap.size w wr) := by
          refine ⟨?_, HB.out⟩
          have h2 := HR.out
          rw [show k = N by omega] at h2
          rw [A.out]
          exact h2.ll (OwnG.lst HO.out)
        clear hlt HO HR HB htl
        go_wp2_with fail
        go_ret2
        exact ⟨_, rfl, K.out⟩
  · have A := Lib.hid (ansA_bad hc)
    have t := bne_true (a := chkR n l) (b := 0) hc
    generalize chkR n l = q at CK t ⊢
    clear hc H hl
    go_enter Try.func16, Try.ntmps16
    go_wp2_with fail
    refine CK.out.mono ?_
    rintro e w' ⟨rfl, rfl⟩
    clear CK
    go_wp2_with fail
    go_ret2
    exact ⟨_, rfl, by rw [A.out]; exact LL.nil _, Below.refl _ _⟩
end Go.Proofs.Ytahbgafjljfndaa
