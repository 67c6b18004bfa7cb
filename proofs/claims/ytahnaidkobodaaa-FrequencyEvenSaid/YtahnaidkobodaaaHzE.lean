/-
  The law FrequencyEven: it answers true for every input; nothing that existed before the call has changed behind it. Condition: lengths of 63 bits.
-/
import Derived.Test.YtahnaidkobodaaaHzN
namespace Go.Proofs.Ytahnaidkobodaaa
open Go.RowKit

theorem end_next {t a b v : Int} (h : sndF (t, a, b, v) = true) : endF (t, a, b, v) < b ∧ b - v ≤ endF (t, a, b, v) := by
  have h0 := cnt_pos h
  have h1 := (cnt_lt h (cntF (t, a, b, v) - 1)).1 (by omega)
  have h2 : ¬ nthF (t, a, b, v) (cntF (t, a, b, v)) < b := fun hh => Nat.lt_irrefl _ ((cnt_lt h (cntF (t, a, b, v))).2 hh)
  obtain ⟨m, hm⟩ : ∃ m, cntF (t, a, b, v) = m + 1 := ⟨cntF (t, a, b, v) - 1, by omega⟩
  unfold endF
  rw [hm, Nat.add_sub_cancel] at h1 ⊢
  rw [hm, nth_next] at h2
  simp only at h1 h2
  omega
/-- A trip in a literal slice. -/
theorem trip_lit {W W' : World} {s : ByteArray} {r c : Int} {q : Bool} {cv : Value} {l : List Cl} (h : LstC W cv l) (hl : l.length ≤ 9223372036854775807) (hs : OkS l) (hW' : W.alloc (.cells #[.string s, .int .i64 r, .int .i64 c, .bool q, cv] 39 (0, 0)) = W') :
    Below W.heap.size W W' ∧ LstTp W' (.slice (some ⟨W.heap.size, 0, none⟩) 1 1) [(s.data.toList, r, c, q, cv, l)] := by
  subst hW'
  have hsl : str s.data.toList = s := str_list s
  have b : Below W.heap.size W (W.alloc (.cells #[.string s, .int .i64 r, .int .i64 c, .bool q, cv] 39 (0, 0))) := (Below.refl _ _).alloc (Nat.le_refl _) _
  refine ⟨b, ?_, fun x hx => ?_⟩
  · exact lstG_lit W _ _ [(s.data.toList, r, c, q, cv, l)] (by simp [fl, te, hsl]) 1 rfl
  · rw [List.mem_singleton.1 hx]
    exact ⟨h.below b, hl, hs⟩
theorem lst_two {f : Fq} {k : Nat} {x y : Int} (h1 : (lstF f)[k]? = some x) (h2 : (lstF f)[k + 1]? = some y) : y - f.2.2.2 = x := by
  have g1 := (List.getElem?_eq_some_iff.1 h1).1
  have g2 := (List.getElem?_eq_some_iff.1 h2).1
  rw [lst_len] at g1 g2
  rw [lst_at g1] at h1
  rw [lst_at g2] at h2
  cases h1
  cases h2
  rw [nth_next]
  omega
theorem lst_low {t a b v : Int} (h : sndF (t, a, b, v) = true) {k : Nat} {x : Int} (h1 : (lstF (t, a, b, v))[k]? = some x) : 0 ≤ x ∧ x ≤ 172800 := by
  have g1 := (List.getElem?_eq_some_iff.1 h1).1
  rw [lst_len] at g1
  rw [lst_at g1] at h1
  cases h1
  have h2 := nth_low h k
  have h3 := (cnt_lt h k).1 g1
  have h4 := snd_iff.1 h
  simp only at h2 h3
  omega
theorem run_is {l : List Cl} {st : Int} (h : fitC l st = true) {k : Nat} {x xa xd : Int} {o u : Bool} (hx : l[k]? = some (x, xa, xd, o, u)) : ∃ p1 p2, (runC l st)[k]? = some (x, p1, p2, o, u) ∧ p1 = xa - dpF l + st ∧ p2 = xd - dpF l + st ∧ (0 ≤ p1 ∧ p1 ≤ 172800) ∧ 0 ≤ p2 ∧ p2 ≤ 172800 := by
  have g := (fit_is h).2 _ (List.mem_iff_getElem?.2 ⟨k, hx⟩)
  unfold fitX at g
  rw [Bool.and_eq_true, inT_iff, inT_iff] at g
  exact ⟨_, _, run_at' hx, rfl, rfl, g.1, g.2⟩
set_option maxRecDepth 100000 in
set_option maxHeartbeats 16000000 in
theorem even_law (t a b v : Int) (s : ByteArray) (r c : Int) (q : Bool) (cv : Value) (l : List Cl) (hl : l.length ≤ 9223372036854775807) (hs : OkS l) (w : World) (h : LstC w cv l) : Calls Try.prog 6 #[fqV t a b v, .agg #[.string s, .int .i64 r, .int .i64 c, .bool q, cv]] w fun e w' => e = .returned (.bool true) ∧ Below w.heap.size w w' := by
  obtain ⟨A, n, rfl, -, -, -⟩ := id h
  obtain ⟨w7, hw7, z7, rf, rt, b7⟩ := box_both w (boxF t a b v) (boxT s r c q (.slice A l.length n))
  obtain ⟨p0, p1, p2, p3⟩ := row_fq rf
  have Z7 : Hid (w.heap.size + 1 < w7.heap.size) := by show _ < _; omega
  have RF := Lib.hid rf
  have RT := Lib.hid rt
  have B7 := Lib.hid b7
  have H7 := Lib.hid (h.below b7)
  obtain ⟨w8, hw8⟩ : ∃ W, w7.alloc (.cells #[.int .i64 t, .int .i64 a, .int .i64 b, .int .i64 v] 35 (0, 0)) = W := ⟨_, rfl⟩
  have b8 : Below w7.heap.size w7 w8 := by rw [← hw8]; exact (Below.refl _ _).alloc (Nat.le_refl _) _
  have l8 : LstF w8 (.slice (some ⟨w7.heap.size, 0, none⟩) 1 1) [(t, a, b, v)] := by rw [← hw8]; exact lstG_lit w7 _ _ [(t, a, b, v)] rfl 1 rfl
  have K8 : Hid (Below w7.heap.size w7 w8) := b8
  have C1 := Lib.hid (rmny_any _ _ 3000 w8 l8)
  clear b7 b8 l8 rf rt z7 h
  cases h1 : mnyF [(t, a, b, v)] 3000 with
  | true =>
    rw [h1] at C1
    clear h1 hs
    go_enter Try.func6, Try.ntmps6
    go_wp2_with fail
    refine C1.out.mono ?_
    rintro e w1 ⟨rfl, b1⟩
    have B1 : Hid (Below w.heap.size w w1) := B7.out.trans ((K8.out.trans (b1.mono K8.out.size)).mono B7.out.size)
    clear b1 C1
    go_wp2_with fail
    refine (ex_any _).mono ?_
    rintro e x99 ⟨rfl, y99⟩
    have B99 : Hid (Below w.heap.size w x99) := B1.out.trans (y99.mono B1.out.size)
    clear y99
    go_wp2_with fail
    go_ret
    exact ⟨rfl, B99.out⟩
  | false =>
    rw [h1] at C1
    clear h1
    have TL := Lib.hid (fun (W W' : World) (hW : Below w7.heap.size w7 W) hW' => trip_lit (W := W) (W' := W') (s := s) (r := r) (c := c) (q := q) (H7.out.below hW) hl hs hW')
    go_enter Try.func6, Try.ntmps6
    go_wp2_with fail
    refine C1.out.mono ?_
    rintro e w1 ⟨rfl, b1⟩
    have K1 : Hid (Below w7.heap.size w7 w1) := K8.out.trans (b1.mono K8.out.size)
    obtain ⟨m0, m1, m2, m3, m4⟩ := row_tp ((K1.out.block _ Z7.out).trans RT.out)
    obtain ⟨w2, hw2⟩ : ∃ W, w1.alloc (.cells #[.string s, .int .i64 r, .int .i64 c, .bool q, .slice A l.length n] 39 (0, 0)) = W := ⟨_, rfl⟩
    obtain ⟨b2, l2⟩ := TL.out w1 w2 K1.out hw2
    have K2 : Hid (Below w7.heap.size w7 w2) := K1.out.trans (b2.mono K1.out.size)
    have P1 := Lib.hid (plain_any _ _ w2 l2)
    clear b1 C1 b2 l2 K8 K1 p0 p1 p2 p3 hw7 hw8
    cases h2 : plnT [(s.data.toList, r, c, q, .slice A l.length n, l)] with
    | false =>
      rw [h2] at P1
      have B2 : Hid (Below w.heap.size w w2) := B7.out.trans (K2.out.mono B7.out.size)
      clear h2 hs
      go_wp2_with fail
      refine P1.out.mono ?_
      rintro e w' ⟨rfl, rfl⟩
      clear P1 m0 m1 m2 m3 m4
      go_wp2_with fail
      refine (ex_any _).mono ?_
      rintro e x99 ⟨rfl, y99⟩
      have B99 : Hid (Below w.heap.size w x99) := B2.out.trans (y99.mono B2.out.size)
      clear y99
      go_wp2_with fail
      go_ret
      exact ⟨rfl, B99.out⟩
    | true =>
      rw [h2] at P1
      have hll : l.length ≤ 40 := (pln_is h2).2 _ List.mem_cons_self
      clear h2
      go_wp2_with fail
      refine P1.out.mono ?_
      rintro e w' ⟨rfl, rfl⟩
      clear P1 m0 m1 m2 m3 m4 hw2
      obtain ⟨m0, m1, m2, m3, m4⟩ := row_tp ((K2.out.block _ Z7.out).trans RT.out)
      obtain ⟨w3, hw3⟩ : ∃ W, w2.alloc (.cells #[.string s, .int .i64 r, .int .i64 c, .bool q, .slice A l.length n] 39 (0, 0)) = W := ⟨_, rfl⟩
      obtain ⟨b3, l3⟩ := TL.out w2 w3 K2.out hw3
      have K3 : Hid (Below w7.heap.size w7 w3) := K2.out.trans (b3.mono K2.out.size)
      have V1 := Lib.hid (valid_any _ _ (by simp) w3 l3)
      clear b3 l3 K2 TL
      go_wp2_with fail
      refine V1.out.mono ?_
      rintro e w4 ⟨⟨rv, rfl, hr⟩, b4⟩
      have K4 : Hid (Below w7.heap.size w7 w4) := K3.out.trans (b4.mono K3.out.size)
      clear b4 V1 K3 m0 m1 m2 m3 m4 hw3
      cases rv with
      | false =>
        have B4 : Hid (Below w.heap.size w w4) := B7.out.trans (K4.out.mono B7.out.size)
        clear hr hs
        go_wp2_with fail
        refine (ex_any _).mono ?_
        rintro e x99 ⟨rfl, y99⟩
        have B99 : Hid (Below w.heap.size w x99) := B4.out.trans (y99.mono B4.out.size)
        clear y99
        go_wp2_with fail
        go_ret
        exact ⟨rfl, B99.out⟩
      | true =>
        have hc2 : 2 ≤ l.length := hr rfl _ List.mem_cons_self
        clear hr
        obtain ⟨p0, p1, p2, p3⟩ := row_fq ((K4.out.block _ (by have := Z7.out; omega)).trans RF.out)
        have C5 := Lib.hid (fun W => kstarts_any t a b v W)
        go_wp2_with fail
        refine (C5.out _).mono ?_
        rintro e w5 ⟨u5, rfl, o5, b5⟩
        have K5 : Hid (Below w7.heap.size w7 w5) := K4.out.trans (b5.mono K4.out.size)
        have L5 := Lib.hid (OwnI.lst o5)
        obtain ⟨A5, c5, rfl⟩ := own_shape' o5
        clear b5 o5 C5 K4 p0 p1 p2 p3
        obtain ⟨p0, p1, p2, p3⟩ := row_fq ((K5.out.block _ (by have := Z7.out; omega)).trans RF.out)
        have C6 := Lib.hid (rsnd_any t a b v w5)
        cases h3 : sndF (t, a, b, v) with
        | false =>
          rw [h3] at C6
          have e0 : (stsF (t, a, b, v)).length = 0 := by rw [sts_no h3]; rfl
          rw [e0]
          clear h3 hs
          go_wp2_with fail
          refine C6.out.mono ?_
          rintro e w6 ⟨rfl, b6⟩
          have B6 : Hid (Below w.heap.size w w6) := B7.out.trans ((K5.out.trans (b6.mono K5.out.size)).mono B7.out.size)
          clear b6 C6 L5 p0 p1 p2 p3 e0
          go_wp2_with fail
          refine (ex_any _).mono ?_
          rintro e x99 ⟨rfl, y99⟩
          have B99 : Hid (Below w.heap.size w x99) := B6.out.trans (y99.mono B6.out.size)
          clear y99
          go_wp2_with fail
          go_ret
          exact ⟨rfl, B99.out⟩
        | true =>
          rw [h3] at C6
          rw [sts_yes h3] at L5 ⊢
          have F1 := Lib.hid (first_at h3)
          have F2 := Lib.hid (end_at h3)
          have EN := end_next h3
          obtain ⟨h4, h5, h6, h7, h8⟩ := snd_iff.1 h3
          have TWO := Lib.hid (fun k x y hx hy => lst_two (f := (t, a, b, v)) (k := k) (x := x) (y := y) hx hy)
          have LOW := Lib.hid (fun k x hx => lst_low h3 (k := k) (x := x) hx)
          have hN := lst_len (t, a, b, v)
          have hle := cnt_le h3
          have hpos := cnt_pos h3
          rw [← hN] at hle hpos
          obtain ⟨E, hE⟩ : ∃ E, endF (t, a, b, v) = E := ⟨_, rfl⟩
          rw [hE] at F2 EN
          generalize lstF (t, a, b, v) = ls at L5 F1 F2 TWO LOW hle hpos ⊢
          obtain ⟨N, hNN⟩ : ∃ N, ls.length = N := ⟨_, rfl⟩
          rw [hNN] at F2 hle hpos ⊢
          rw [show (Value.slice A5 ls.length c5) = .slice A5 N c5 by rw [hNN]] at L5
          obtain ⟨M, hM⟩ : ∃ M, N - 1 = M := ⟨_, rfl⟩
          rw [hM] at F2
          have eM : (N : Int) - 1 = (M : Int) := by omega
          have wM : IntKind.i64.wrap (M : Int) = (M : Int) := IntWalk.i64_in _ (by omega)
          have gM : (M : Int) < (N : Int) := by omega
          have g0 : (0 : Int) < (N : Int) := by omega
          have g0' : 0 < N := hpos
          have q0 : ((N : Int) == 0) = false := beq_false (by omega)
          have q0' : (N == 0) = false := by rw [beq_eq_false_iff_ne]; omega
          have q1 : (a != a) = false := neq_false rfl
          have q2 : decide (b ≤ E) = false := decide_eq_false (by omega)
          have q3 : decide (E < b - v) = false := decide_eq_false (by omega)
          have HNN := Lib.hid hNN
          clear hN hE hM h3 EN hpos hNN
          go_wp2_with fail
          refine C6.out.mono ?_
          rintro e w6 ⟨rfl, b6⟩
          have K6 : Hid (Below w7.heap.size w7 w6) := K5.out.trans (b6.mono K5.out.size)
          have L6 := Lib.hid (L5.out.below b6)
          obtain ⟨eb, eo, rfl, heb, c0⟩ := int_cell L6.out F1.out
          obtain ⟨eb', eo', e', -, cM⟩ := int_cell L6.out F2.out
          cases e'
          rw [Nat.add_zero] at c0
          clear b6 C6 L5 K5 p0 p1 p2 p3 heb
          obtain ⟨p0, p1, p2, p3⟩ := row_fq ((K6.out.block _ (by have := Z7.out; omega)).trans RF.out)
          go_wp2_with fail
          go_quiet (fail)
          have bq := below_drewN (Below.refl w6.heap.size w6) nq
          generalize w6.drewN nq = w9 at bq ⊢
          have K9 : Hid (Below w7.heap.size w7 w9) := K6.out.trans (bq.mono K6.out.size)
          have L9 := Lib.hid (L6.out.below bq)
          clear bq K6 L6 p0 p1 p2 p3 c0 cM q0 q0' q1 q2 q3 eM wM gM
          go_wp2_with fail
          go_loopw [6] (fun i wr => ∃ k : Nat, i = .int .i64 k ∧ k ≤ N ∧ Hid (Below w9.heap.size w9 wr)) (fun i _ => N - (intOf i).toNat)
          case atStart => exact ⟨0, rfl, Nat.zero_le _, Lib.hid (Below.refl _ _)⟩
          case round =>
            obtain ⟨k, rfl, hk, HW⟩ := hrel
            obtain ⟨p0, p1, p2, p3⟩ := row_fq (((K9.out.trans (HW.out.mono K9.out.size)).block _ (by have := Z7.out; omega)).trans RF.out)
            by_cases hkt : k < N
            · have gk : (k : Int) < (N : Int) := by omega
              by_cases hk0 : k = 0
              · subst hk0
                go_wp2_with fail
                go_quiet (fail)
                have bq := below_drewN (Below.refl wr.heap.size wr) nq
                generalize wr.drewN nq = wx at bq ⊢
                have WX : Hid (Below w9.heap.size w9 wx) := HW.out.trans (bq.mono HW.out.size)
                clear bq HW
                go_wp2_with fail
                go_roundw
                case rel => exact ⟨1, by go_num, by omega, WX⟩
                case measure => simp [intOf]; omega
              · obtain ⟨rr, hr⟩ : ∃ rr, k - 1 = rr := ⟨_, rfl⟩
                obtain ⟨x, hx⟩ := at_lt (l := ls) (k := k) (by rw [HNN.out]; exact hkt)
                obtain ⟨y, hy⟩ := at_lt (l := ls) (k := rr) (by rw [HNN.out]; omega)
                obtain ⟨eb', eo', e', -, cx⟩ := int_cell (L9.out.below HW.out) hx
                cases e'
                obtain ⟨eb', eo', e', -, cy⟩ := int_cell (L9.out.below HW.out) hy
                cases e'
                have x0 := (LOW.out k x hx).1
                have x1 := (LOW.out k x hx).2
                have tw : x - v = y := TWO.out rr y x hy (by rw [show rr + 1 = k by omega]; exact hx)
                have tl : (x - v != y) = false := neq_false tw
                have eL : (k : Int) - 1 = (rr : Int) := by omega
                have wL : IntKind.i64.wrap (rr : Int) = (rr : Int) := IntWalk.i64_in _ (by omega)
                have gr : (rr : Int) < (N : Int) := by omega
                have gp : (0 : Int) < (k : Int) := by omega
                have gp' : 0 < k := by omega
                clear hx hy tw hr hk0
                go_wp2_with fail
                go_quiet (fail)
                have bq := below_drewN (Below.refl wr.heap.size wr) nq
                generalize wr.drewN nq = wx at bq ⊢
                have WX : Hid (Below w9.heap.size w9 wx) := HW.out.trans (bq.mono HW.out.size)
                clear bq HW
                go_wp2_with fail
                go_roundw
                case rel => exact ⟨k + 1, by go_num, by omega, WX⟩
                case measure => simp [intOf]; omega
            · have d : decide (k < N) = false := by rw [decide_eq_false_iff_not]; exact hkt
              have KA : Hid (Below w7.heap.size w7 wr) := K9.out.trans (HW.out.mono K9.out.size)
              have LA := Lib.hid (L9.out.below HW.out)
              clear hkt hk K9 L9 HW TWO LOW F2
              obtain ⟨m0, m1, m2, m3, m4⟩ := row_tp ((KA.out.block _ Z7.out).trans RT.out)
              obtain ⟨eb', eo', e', hc0, c0⟩ := int_cell LA.out F1.out
              cases e'
              rw [Nat.add_zero] at c0
              have C0 := Lib.hid c0
              have HC0 := Lib.hid hc0
              have HL := Lib.hid (H7.out.below KA.out)
              have KC := Lib.hid (fun W (hW : Below wr.heap.size wr W) => far_callsL (kcalls_any s r c q (.slice A l.length n) l (by omega) hs a W (HL.out.below hW)) hW)
              clear hc0
              cases h9 : fitC l a with
              | false =>
                rw [err_no (by omega) h9, ans_no h9] at KC
                clear h9 hs
                go_wp2_with fail
                go_region_held3 (fun W => W.cell? ⟨w.heap.size + 1, 0, none⟩ = some (.string s) ∧ W.cell? ⟨w.heap.size + 1, 1, none⟩ = some (.int .i64 r) ∧ W.cell? ⟨w.heap.size + 1, 2, none⟩ = some (.int .i64 c) ∧ W.cell? ⟨w.heap.size + 1, 3, none⟩ = some (.bool q) ∧ W.cell? ⟨w.heap.size + 1, 4, none⟩ = some (.slice A l.length n) ∧ W.cell? ⟨eb, eo, none⟩ = some (.int .i64 a)) (first | assumption | (exact ⟨by assumption, by assumption, by assumption, by assumption, by assumption, by assumption⟩)) (first
                  | (go_at_call 21; with_reducible refine (KC.out _ (by first | exact Below.refl _ _ | exact (Below.refl _ _).drew)).mono ?_; rintro e wc ⟨uc, rfl, lc, bc⟩; obtain ⟨x0, x1, x2, x3, x4⟩ := row_tp (((KA.out.trans (bc.mono KA.out.size)).block _ Z7.out).trans RT.out); have x5 := (bc.cell (p := ⟨eb, eo, none⟩) HC0.out).trans C0.out))
                all_goals
                  have BB : Hid (Below w.heap.size w wc) := B7.out.trans ((KA.out.trans (bc.mono KA.out.size)).mono B7.out.size)
                  obtain ⟨Ac, cc', rfl, -⟩ := lc
                  simp only [List.length_nil]
                  clear bc KC KA LA x0 x1 x2 x3 x4 x5 p0 p1 p2 p3 m0 m1 m2 m3 m4 c0 C0 HC0
                  go_wp2_with fail
                  refine (ex_any _).mono ?_
                  rintro e x99 ⟨rfl, y99⟩
                  have B99 : Hid (Below w.heap.size w x99) := BB.out.trans (y99.mono BB.out.size)
                  clear y99
                  go_wp2_with fail
                  go_ret
                  exact ⟨rfl, B99.out⟩
              | true =>
                rw [err_yes (by omega) h9, ans_yes h9] at KC
                have HFT := Lib.hid h9
                clear h9 hs
                go_wp2_with fail
                go_region_held3 (fun W => W.cell? ⟨w.heap.size + 1, 0, none⟩ = some (.string s) ∧ W.cell? ⟨w.heap.size + 1, 1, none⟩ = some (.int .i64 r) ∧ W.cell? ⟨w.heap.size + 1, 2, none⟩ = some (.int .i64 c) ∧ W.cell? ⟨w.heap.size + 1, 3, none⟩ = some (.bool q) ∧ W.cell? ⟨w.heap.size + 1, 4, none⟩ = some (.slice A l.length n) ∧ W.cell? ⟨eb, eo, none⟩ = some (.int .i64 a)) (first | assumption | (exact ⟨by assumption, by assumption, by assumption, by assumption, by assumption, by assumption⟩)) (first
                  | (go_at_call 21; with_reducible refine (KC.out _ (by first | exact Below.refl _ _ | exact (Below.refl _ _).drew)).mono ?_; rintro e wc ⟨uc, rfl, lc, bc⟩; obtain ⟨x0, x1, x2, x3, x4⟩ := row_tp (((KA.out.trans (bc.mono KA.out.size)).block _ Z7.out).trans RT.out); have x5 := (bc.cell (p := ⟨eb, eo, none⟩) HC0.out).trans C0.out))
                all_goals
                  have KB : Hid (Below w7.heap.size w7 wc) := KA.out.trans (bc.mono KA.out.size)
                  have LC := Lib.hid lc
                  obtain ⟨Ac, cc', rfl, -⟩ := id lc
                  rw [run_len]
                  rw [show Value.slice Ac (runC l a).length cc' = .slice Ac l.length cc' by rw [run_len]] at LC
                  have HLC := Lib.hid (HL.out.below bc)
                  obtain ⟨⟨y, ya, yd, yo, yu⟩, hy⟩ := at_lt (l := l) (k := 0) (by omega)
                  have hdp : dpF l = yd := dp_at hy
                  obtain ⟨z1, z2, hrz, ez1, ez2, bz1, bz2⟩ := run_is HFT.out hy
                  obtain rfl : z2 = a := by omega
                  have HY := Lib.hid hy
                  have HRZ := Lib.hid hrz
                  have EZ1 := Lib.hid ez1
                  have HDP := Lib.hid hdp
                  have q1 : (z2 != z2) = false := neq_false rfl
                  have tl := neq_false (a := (l.length : Int)) (b := (l.length : Int)) rfl
                  have gl : (0 : Int) < (l.length : Int) := by omega
                  have gl' : 0 < l.length := by omega
                  clear bc lc KC KA LA x0 x1 x2 x3 x4 x5 p0 p1 p2 p3 m0 m1 m2 m3 m4 c0 C0 HC0 HL hy hrz ez1 hdp ez2
                  obtain ⟨p0, p1, p2, p3⟩ := row_fq ((KB.out.block _ (by have := Z7.out; omega)).trans RF.out)
                  obtain ⟨m0, m1, m2, m3, m4⟩ := row_tp ((KB.out.block _ Z7.out).trans RT.out)
                  obtain ⟨cb, co, rfl, -, k0, k1, k2, k3, k4⟩ := five_at LC.out HRZ.out
                  rw [Nat.zero_mul, Nat.add_zero] at k0 k1 k2 k3 k4
                  go_wp2_with fail
                  go_quiet (fail)
                  have bq := below_drewN (Below.refl wc.heap.size wc) nq
                  generalize wc.drewN nq = wd at bq ⊢
                  have KD : Hid (Below w7.heap.size w7 wd) := KB.out.trans (bq.mono KB.out.size)
                  have LD := Lib.hid (LC.out.below bq)
                  have HLD := Lib.hid (HLC.out.below bq)
                  clear bq KB LC HLC p0 p1 p2 p3 m0 m1 m2 m3 m4 k0 k1 k2 k3 k4 q1 tl
                  go_wp2_with fail
                  go_loopw [9] (fun i wr => ∃ k : Nat, i = .int .i64 k ∧ k ≤ l.length ∧ Hid (Below wd.heap.size wd wr)) (fun i _ => l.length - (intOf i).toNat)
                  case atStart => exact ⟨0, rfl, Nat.zero_le _, Lib.hid (Below.refl _ _)⟩
                  case round =>
                    obtain ⟨k, rfl, hk, HW⟩ := hrel
                    by_cases hkt : k < l.length
                    · have gk : (k : Int) < (l.length : Int) := by omega
                      obtain ⟨⟨x, xa, xd, xo, xu⟩, hx⟩ := at_lt hkt
                      obtain ⟨y1, y2, hrx, ey1, ey2, by1, by2⟩ := run_is HFT.out hx
                      obtain ⟨m0, m1, m2, m3, m4⟩ := row_tp (((KD.out.trans (HW.out.mono KD.out.size)).block _ Z7.out).trans RT.out)
                      obtain ⟨tb, to, rfl, htb, r0, r1, r2, r3, r4⟩ := five_at (HLD.out.below HW.out) hx
                      obtain ⟨we, hwe⟩ : ∃ W, wr.alloc (.cells #[.int .i64 x, .int .i64 xa, .int .i64 xd, .bool xo, .bool xu] 46 (0, 0)) = W := ⟨_, rfl⟩
                      obtain ⟨be, d0, d1, d2, d3, d4, se⟩ := box_cc hwe
                      have WE : Hid (Below wd.heap.size wd we) := HW.out.trans (be.mono HW.out.size)
                      obtain ⟨cb', co', e', -, s0, s1, s2, s3, s4⟩ := five_at (LD.out.below WE.out) hrx
                      cases e'
                      obtain ⟨cb', co', e', -, k0, k1, k2, k3, k4⟩ := five_at (LD.out.below WE.out) HRZ.out
                      cases e'
                      rw [Nat.zero_mul, Nat.add_zero] at k0 k1 k2 k3 k4
                      obtain ⟨tb', to', e', -, f0, f1, f2, f3, f4⟩ := five_at (HLD.out.below WE.out) HY.out
                      cases e'
                      rw [Nat.zero_mul, Nat.add_zero] at f0 f1 f2 f3 f4
                      obtain ⟨n0, n1, n2, n3, n4⟩ := row_tp (((KD.out.trans (WE.out.mono KD.out.size)).block _ Z7.out).trans RT.out)
                      have u1 := neq_false (a := x) (b := x) rfl
                      have u2 : (y2 - y1 != xd - xa) = false := neq_false (by omega)
                      have ez := EZ1.out
                      have u3 : (y1 - z1 != xa - ya) = false := neq_false (by omega)
                      have v0 : -172800 ≤ xd - xa := by omega
                      have v1 : xd - xa ≤ 172800 := by omega
                      have v2 : -172800 ≤ xa - ya := by omega
                      have v3 : xa - ya ≤ 172800 := by omega
                      have w0 : IntKind.i64.wrap (xd - xa) = xd - xa := IntWalk.i64_in _ (by omega)
                      have w1' : IntKind.i64.wrap (xa - ya) = xa - ya := IntWalk.i64_in _ (by omega)
                      have w2' : IntKind.i64.wrap (y2 - y1) = y2 - y1 := IntWalk.i64_in _ (by omega)
                      have w3' : IntKind.i64.wrap (y1 - z1) = y1 - z1 := IntWalk.i64_in _ (by omega)
                      obtain ⟨i1, i2⟩ := by1
                      obtain ⟨i3, i4⟩ := by2
                      obtain ⟨i5, i6⟩ := bz1
                      have u4 : (xo != xo) = false := by simp
                      have u5 : (xu != xu) = false := by simp
                      clear hx hrx be htb HW ey1 ey2 ez
                      go_wp2_with fail
                      go_quiet (fail)
                      have bq := below_drewN (Below.refl we.heap.size we) nq
                      generalize we.drewN nq = wg at bq ⊢
                      have WG : Hid (Below wd.heap.size wd wg) := WE.out.trans (bq.mono WE.out.size)
                      clear bq WE
                      go_wp2_with fail
                      go_roundw
                      case rel => exact ⟨k + 1, by go_num, by omega, WG⟩
                      case measure => simp [intOf]; omega
                    · have d : decide (k < l.length) = false := by rw [decide_eq_false_iff_not]; exact hkt
                      have BE : Hid (Below w.heap.size w wr) := B7.out.trans ((KD.out.trans (HW.out.mono KD.out.size)).mono B7.out.size)
                      clear hkt hk HW
                      go_wp2_with fail
                      refine (ex_any _).mono ?_
                      rintro e x99 ⟨rfl, y99⟩
                      have B99 : Hid (Below w.heap.size w x99) := BE.out.trans (y99.mono BE.out.size)
                      clear y99
                      go_wp2_with fail
                      go_ret
                      exact ⟨rfl, B99.out⟩
end Go.Proofs.Ytahnaidkobodaaa
