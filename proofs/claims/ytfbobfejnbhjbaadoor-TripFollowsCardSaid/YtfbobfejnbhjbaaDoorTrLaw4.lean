/-
  The laws TripPartition: each answers true for every input; nothing that existed before the call has changed behind it. Condition: the table that numerals are made with; lengths of 63 bits.
-/
import Derived.Test.YtfbobfejnbhjbaaDoorTrLaw2
import Derived.Test.YtfbobfejnbhjbaaDoorTrLaw
namespace Go.Proofs.YtfbobfejnbhjbaaDoor
open Go.RowKit

theorem part_facts {κ : Type} [DecidableEq κ] {ks : List κ} {a b : Nat} {x y : κ} (h : ks[a]? = some x) (k : ks[b]? = some y) : ∃ P Q : Nat, (∀ (i : Nat) g, (grp ks)[i]? = some g → ((a : Int) ∈ g ↔ i = P)) ∧ (∀ (i : Nat) g, (grp ks)[i]? = some g → ((b : Int) ∈ g ↔ i = Q)) ∧ P < (grp ks).length ∧ Q < (grp ks).length ∧ (P = Q ↔ x = y) :=
  ⟨_, _, fun _ _ hg => grp_has h hg, fun _ _ hg => grp_has k hg, grp_lt h, grp_lt k, grp_eq h k⟩
theorem sum_step {ks : List (List Vs)} {i : Nat} {g : List Int} (h : (grp ks)[i]? = some g) : sumG (grp ks) (i + 1) = sumG (grp ks) i + g.length ∧ sumG (grp ks) i + g.length ≤ ks.length := by
  have h1 := sumG_next h
  have h2 := sumG_le (gs := grp ks) (k := i + 1)
  rw [sum_all] at h2
  exact ⟨h1, by omega⟩
set_option maxRecDepth 100000 in
set_option maxHeartbeats 16000000 in
theorem part_law (v : Value) (l : List Tp) (hl : l.length ≤ 9223372036854775807) (_ : OkTs l) (a b : Int) (w : World) (hg : GoodP w) (h : LstTp w v l) : Calls Tryd.prog 9 #[v, .int .i64 a, .int .i64 b] w fun e w' => e = .returned (.bool true) ∧ Below w.heap.size w w' := by
  have H := Lib.hid h
  have G0 := Lib.hid hg
  have TB := Lib.hid (table_any v l hl 40 w H.out)
  clear hg
  obtain ⟨⟨A, n, rfl, -, -, -⟩, -⟩ := h
  by_cases ht : tabT 40 l = false
  · rw [ht] at TB
    clear ht hl
    go_enter Tryd.func9, Tryd.ntmps9
    go_wp2_with fail
    refine TB.out.mono ?_
    rintro e w1 ⟨rfl, b1⟩
    have B1 : Hid (Below w.heap.size w w1) := b1
    have G1 := Lib.hid (G0.out.below b1)
    clear b1 TB G0 H
    go_wp2_with fail
    refine (ex_any _ G1.out).mono ?_
    rintro e x9 ⟨rfl, y9⟩
    have B9 : Hid (Below w.heap.size w x9) := B1.out.trans (y9.mono B1.out.size)
    clear y9 
    go_wp2_with fail
    go_ret
    exact ⟨rfl, B9.out⟩
  rw [Bool.not_eq_false] at ht
  have hn := tab_len ht
  have HC := Lib.hid (tab_small ht)
  rw [ht] at TB
  have hn40 : l.length ≤ 40 := by omega
  clear ht hn
  by_cases h1 : a < 0
  · go_enter Tryd.func9, Tryd.ntmps9
    go_wp2_with fail
    refine TB.out.mono ?_
    rintro e w1 ⟨rfl, b1⟩
    have B1 : Hid (Below w.heap.size w w1) := b1
    have G1 := Lib.hid (G0.out.below b1)
    have H1 := Lib.hid (H.out.below b1)
    clear b1 TB G0 H
    go_wp2_with fail
    refine (ex_any _ G1.out).mono ?_
    rintro e x9 ⟨rfl, y9⟩
    have B9 : Hid (Below w.heap.size w x9) := B1.out.trans (y9.mono B1.out.size)
    clear y9 
    go_wp2_with fail
    go_ret
    exact ⟨rfl, B9.out⟩
  have d1 : decide (a < 0) = false := decide_eq_false h1
  by_cases h2 : (l.length : Int) ≤ a
  · go_enter Tryd.func9, Tryd.ntmps9
    go_wp2_with fail
    refine TB.out.mono ?_
    rintro e w1 ⟨rfl, b1⟩
    have B1 : Hid (Below w.heap.size w w1) := b1
    have G1 := Lib.hid (G0.out.below b1)
    have H1 := Lib.hid (H.out.below b1)
    clear b1 TB G0 H
    go_wp2_with fail
    refine (ex_any _ G1.out).mono ?_
    rintro e x9 ⟨rfl, y9⟩
    have B9 : Hid (Below w.heap.size w x9) := B1.out.trans (y9.mono B1.out.size)
    clear y9 
    go_wp2_with fail
    go_ret
    exact ⟨rfl, B9.out⟩
  have d2 : decide ((l.length : Int) ≤ a) = false := decide_eq_false h2
  by_cases h3 : b < 0
  · go_enter Tryd.func9, Tryd.ntmps9
    go_wp2_with fail
    refine TB.out.mono ?_
    rintro e w1 ⟨rfl, b1⟩
    have B1 : Hid (Below w.heap.size w w1) := b1
    have G1 := Lib.hid (G0.out.below b1)
    have H1 := Lib.hid (H.out.below b1)
    clear b1 TB G0 H
    go_wp2_with fail
    refine (ex_any _ G1.out).mono ?_
    rintro e x9 ⟨rfl, y9⟩
    have B9 : Hid (Below w.heap.size w x9) := B1.out.trans (y9.mono B1.out.size)
    clear y9 
    go_wp2_with fail
    go_ret
    exact ⟨rfl, B9.out⟩
  have d3 : decide (b < 0) = false := decide_eq_false h3
  by_cases h4 : (l.length : Int) ≤ b
  · go_enter Tryd.func9, Tryd.ntmps9
    go_wp2_with fail
    refine TB.out.mono ?_
    rintro e w1 ⟨rfl, b1⟩
    have B1 : Hid (Below w.heap.size w w1) := b1
    have G1 := Lib.hid (G0.out.below b1)
    have H1 := Lib.hid (H.out.below b1)
    clear b1 TB G0 H
    go_wp2_with fail
    refine (ex_any _ G1.out).mono ?_
    rintro e x9 ⟨rfl, y9⟩
    have B9 : Hid (Below w.heap.size w x9) := B1.out.trans (y9.mono B1.out.size)
    clear y9 
    go_wp2_with fail
    go_ret
    exact ⟨rfl, B9.out⟩
  have d4 : decide ((l.length : Int) ≤ b) = false := decide_eq_false h4
  obtain ⟨ia, rfl⟩ := Int.eq_ofNat_of_zero_le (show 0 ≤ a by omega)
  obtain ⟨ib, rfl⟩ := Int.eq_ofNat_of_zero_le (show 0 ≤ b by omega)
  obtain ⟨⟨xd, xr, xc, xf, xv, xl⟩, hx⟩ := at_lt (l := l) (k := ia) (by omega)
  obtain ⟨⟨yd, yr, yc, yf, yv, yl⟩, hy⟩ := at_lt (l := l) (k := ib) (by omega)
  obtain ⟨xm, hxm⟩ : ∃ nm, str xd = nm := ⟨_, rfl⟩
  obtain ⟨ym, hym⟩ : ∃ nm, str yd = nm := ⟨_, rfl⟩
  have ga : (ia : Int) < (l.length : Int) := by omega
  have gb : (ib : Int) < (l.length : Int) := by omega
  obtain ⟨P, Q, pa, pb, pl, ql, pq⟩ := part_facts (pt_at hx) (pt_at hy)
  have PA := Lib.hid pa
  have PB := Lib.hid pb
  have PQ := Lib.hid pq
  have HX := Lib.hid hx
  have HY := Lib.hid hy
  have HXM := Lib.hid hxm
  have HYM := Lib.hid hym
  have PL := Lib.hid pl
  have QL := Lib.hid ql
  clear h1 h2 h3 h4 hx hy hxm hym pa pb pl ql pq
  go_enter Tryd.func9, Tryd.ntmps9
  go_wp2_with fail
  refine TB.out.mono ?_
  rintro e w1 ⟨rfl, b1⟩
  have B1 : Hid (Below w.heap.size w w1) := b1
  have G1 := Lib.hid (G0.out.below b1)
  have H1 := Lib.hid (H.out.below b1)
  clear b1 TB G0 H
  go_wp2_with fail
  refine (kgrp_any (.slice A l.length n) l (by omega) (fun x hx => Nat.le_trans (HC.out x hx) (by decide)) w1 G1.out H1.out).mono ?_
  rintro e w2 ⟨u, rfl, lg, b2⟩
  have B2 : Hid (Below w.heap.size w w2) := B1.out.trans (b2.mono B1.out.size)
  have G2 := Lib.hid (G1.out.below b2)
  have H2 := Lib.hid (H1.out.below b2)
  have L2 := Lib.hid lg
  obtain ⟨AG, cg, rfl⟩ := lg.len
  obtain ⟨N, hN⟩ : ∃ N, (grp (l.map ptT)).length = N := ⟨_, rfl⟩
  have HN := Lib.hid hN
  have hNl : N ≤ 40 := by
    rw [← hN, grp_len]
    exact Nat.le_trans (uq_le _) (by rw [List.length_map]; omega)
  rw [hN] at L2 PL QL ⊢
  have HL : Hid ((l.map ptT).length = l.length) := List.length_map _
  clear hN b2 lg B1 G1 H1 HC
  obtain ⟨gs, hgs⟩ : ∃ gs, grp (l.map ptT) = gs := ⟨_, rfl⟩
  have HG : Hid (grp (l.map ptT) = gs) := hgs
  rw [hgs] at L2 HN PA PB
  clear hgs
  go_wp2_with fail
  go_loopw [8, 9, 10, 11] (fun xv yv nv iv wr => ∃ i : Nat, xv = .int .i64 (whG P i) ∧ yv = .int .i64 (whG Q i) ∧ nv = .int .i64 ((sumG gs i : Nat) : Int) ∧ iv = .int .i64 i ∧ i ≤ N ∧ Hid (w2 = wr)) (fun _ _ _ iv _ => N - (intOf iv).toNat)
  case atStart => exact ⟨0, by rw [wh_zero], by rw [wh_zero], rfl, rfl, Nat.zero_le _, Lib.hid rfl⟩
  case round =>
    clear d1 d2 d3 d4 ga gb
    obtain ⟨i, rfl, rfl, rfl, rfl, hi, HB⟩ := hrel
    obtain rfl := HB.out
    by_cases hlt : i < N
    · obtain ⟨g, hg⟩ := at_lt (l := gs) (k := i) (by rw [HN.out]; exact hlt)
      obtain ⟨-, bq, oq, t, rfl, -, q0, lt⟩ := L2.out.at hg
      obtain ⟨A4, c4, hv, -, -, hc⟩ := _root_.id lt
      rw [hv] at q0
      have HCC := Lib.hid hc
      have SS := sum_step (ks := l.map ptT) (by rw [HG.out]; exact hg)
      rw [HG.out, HL.out] at SS
      have S1 := Lib.hid SS.1
      have s2 := SS.2
      have MA := Lib.hid (PA.out i g hg)
      have MB := Lib.hid (PB.out i g hg)
      have gi : (i : Int) < (N : Int) := by omega
      obtain ⟨M, hM⟩ : ∃ M, g.length = M := ⟨_, rfl⟩
      have HM := Lib.hid hM
      rw [hM] at q0 s2 S1
      clear hg hv hc lt SS HB hM
      go_wp2_with fail
      go_loopw [8, 9, 12] (fun xv yv kv wr => ∃ k : Nat, xv = .int .i64 (whE P i (ia : Int) g k) ∧ yv = .int .i64 (whE Q i (ib : Int) g k) ∧ kv = .int .i64 k ∧ k ≤ M ∧ Hid (w2 = wr)) (fun _ _ kv _ => M - (intOf kv).toNat)
      case atStart => exact ⟨0, by rw [whE_zero], by rw [whE_zero], rfl, Nat.zero_le _, Lib.hid rfl⟩
      case round =>
        obtain ⟨k, rfl, rfl, rfl, hk, HB⟩ := hrel
        obtain rfl := HB.out
        by_cases hlk : k < M
        · obtain ⟨z, hz⟩ := at_lt (l := g) (k := k) (by rw [HM.out]; exact hlk)
          obtain ⟨br, orr, rfl, -, hcell⟩ := HCC.out (by rw [HM.out]; omega)
          have m0 := hcell k _ (ints_at g k z hz)
          have gk : (k : Int) < (M : Int) := by omega
          by_cases ea : z = (ia : Int)
          · have ta := beq_true ea
            have XA := Lib.hid (whE_hit (p := P) (i := i) hz ea)
            by_cases eb : z = (ib : Int)
            · have tb := beq_true eb
              have XB := Lib.hid (whE_hit (p := Q) (i := i) hz eb)
              clear ea eb hz hcell HB
              go_wp2_with fail
              go_roundw
              case rel => exact ⟨k + 1, by rw [XA.out], by rw [XB.out], by go_num, by omega, Lib.hid trivial⟩
              case measure => simp [intOf]; omega
            · have tb := beq_false eb
              have XB := Lib.hid (whE_miss (p := Q) (i := i) hz eb)
              clear ea eb hz hcell HB
              go_wp2_with fail
              go_roundw
              case rel => exact ⟨k + 1, by rw [XA.out], by rw [XB.out], by go_num, by omega, Lib.hid trivial⟩
              case measure => simp [intOf]; omega
          · have ta := beq_false ea
            have XA := Lib.hid (whE_miss (p := P) (i := i) hz ea)
            by_cases eb : z = (ib : Int)
            · have tb := beq_true eb
              have XB := Lib.hid (whE_hit (p := Q) (i := i) hz eb)
              clear ea eb hz hcell HB
              go_wp2_with fail
              go_roundw
              case rel => exact ⟨k + 1, by rw [XA.out], by rw [XB.out], by go_num, by omega, Lib.hid trivial⟩
              case measure => simp [intOf]; omega
            · have tb := beq_false eb
              have XB := Lib.hid (whE_miss (p := Q) (i := i) hz eb)
              clear ea eb hz hcell HB
              go_wp2_with fail
              go_roundw
              case rel => exact ⟨k + 1, by rw [XA.out], by rw [XB.out], by go_num, by omega, Lib.hid trivial⟩
              case measure => simp [intOf]; omega
        · have d : decide (k < M) = false := by rw [decide_eq_false_iff_not]; exact hlk
          have XA := Lib.hid (whE_end (p := P) (i := i) (z := (ia : Int)) (show g.length ≤ k by rw [HM.out]; omega) MA.out)
          have XB := Lib.hid (whE_end (p := Q) (i := i) (z := (ib : Int)) (show g.length ≤ k by rw [HM.out]; omega) MB.out)
          rw [XA.out, XB.out]
          clear hlk HB
          go_wp2_with fail
          go_roundw
          case rel => exact ⟨i + 1, rfl, rfl, by rw [S1.out]; go_num, by go_num, by omega, Lib.hid trivial⟩
          case measure => simp [intOf]; omega
    · have d : decide (i < N) = false := by rw [decide_eq_false_iff_not]; exact hlt
      have hiN : i = N := by omega
      subst hiN
      have SA := sumG_all (l.map ptT) (k := i) (by rw [HG.out, HN.out]; exact Nat.le_refl _)
      rw [HG.out, HL.out] at SA
      rw [wh_all PL.out, wh_all QL.out, SA]
      have t1 := beq_true (a := (l.length : Int)) rfl
      have gP : (0 : Int) ≤ (P : Int) := by omega
      have gQ : (0 : Int) ≤ (Q : Int) := by omega
      have ga : (ia : Int) < (l.length : Int) := by have := (List.getElem?_eq_some_iff.1 HX.out).1; omega
      have gb : (ib : Int) < (l.length : Int) := by have := (List.getElem?_eq_some_iff.1 HY.out).1; omega
      obtain ⟨bb, oo, rfl, hG⟩ := trip_regrown H2.out HX.out HXM.out
      obtain ⟨b', o', hA', hJ⟩ := trip_regrown H2.out HY.out HYM.out
      cases hA'
      have U0 := fun d os => (hG d os).1
      have U1 := fun d os => (hG d os).2.1
      have U2 := fun d os => (hG d os).2.2.1
      have U3 := fun d os => (hG d os).2.2.2.1
      have U4 := fun d os => (hG d os).2.2.2.2
      have J0 := fun d os => (hJ d os).1
      have J1 := fun d os => (hJ d os).2.1
      have J2 := fun d os => (hJ d os).2.2.1
      have J3 := fun d os => (hJ d os).2.2.2.1
      have J4 := fun d os => (hJ d os).2.2.2.2
      obtain ⟨l1, l2, -⟩ := H2.out.2 _ (List.mem_iff_getElem?.2 ⟨ia, HX.out⟩)
      obtain ⟨m1, -, -⟩ := H2.out.2 _ (List.mem_iff_getElem?.2 ⟨ib, HY.out⟩)
      simp only at l1 l2 m1
      have D1 := Lib.hid (fun d os => Calls.regrown_of (w := w2) (d := d) (os := os) (ksame_any xm xr xc xf xv xl ym yr yc yf yv yl l2 _ (l1.below (below_regrown w2 d os)) (m1.below (below_regrown w2 d os))))
      have D3 := Lib.hid (fun d os => Calls.regrown_of (w := w2) (d := d) (os := os) (ex_any _ (G2.out.below (below_regrown w2 d os))))
      have E : ((P : Int) == (Q : Int)) = sameP xl yl := by
        have pq := PQ.out
        unfold ptT at pq
        simp only at pq
        unfold sameP
        rw [Bool.eq_iff_iff, beq_iff_eq, decide_eq_true_iff, ← pq]
        omega
      generalize sameP xl yl = z at D1 E
      have tz := beq_same z
      clear hG hJ l1 l2 m1 SA hlt HB hi HL HG HN PL QL PA PB PQ HX HY HXM HYM L2
      go_wp2_with fail
      refine wp_region_quiet_below (by kernel_rfl) (by kernel_rfl) ?_
      repeat (go_big_quiet_step (first | with_reducible exact D1.out _ _ | with_reducible exact D3.out _ _))
      refine wpQuiet_nil ?_
      intro w9 hw9
      have B9 : Hid (Below w.heap.size w w9) := by
        obtain ⟨p, rfl⟩ := hw9
        exact B2.out.trans ((below_regrown w2 p.d p.os).mono B2.out.size)
      clear hw9 D1 D3 U0 U1 U2 U3 U4 J0 J1 J2 J3 J4
      go_wp2_with fail
      go_ret
      exact ⟨rfl, B9.out⟩
end Go.Proofs.YtfbobfejnbhjbaaDoor
