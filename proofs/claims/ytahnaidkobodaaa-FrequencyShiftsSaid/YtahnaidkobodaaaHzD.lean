/-
  Check of the reference of package frequency: what it answers; nothing that existed before the call has changed behind it. Condition: lists of at most 1000 frequencies, trips of at most 1000000 calls.
-/
import Derived.Test.YtahnaidkobodaaaHzF
import Derived.Test.YtahnaidkobodaaaHzC
namespace Go.Proofs.Ytahnaidkobodaaa
open Go.RowKit

theorem met_a {f g : Fq} (ht : f.1 = g.1) (h : ¬ g.2.1 < f.2.2.1) : metF f g = false := by rw [met_same ht]; exact ovl_b h
theorem met_b {f g : Fq} (ht : f.1 = g.1) (h : ¬ f.2.1 < g.2.2.1) : metF f g = false := by rw [met_same ht]; exact ovl_a h
theorem met_yes {f g : Fq} (ht : f.1 = g.1) (h : g.2.1 < f.2.2.1) (k : f.2.1 < g.2.2.1) : metF f g = true := by rw [met_same ht]; exact ovl_yes k h
theorem ins_cnt {t : Int} {l : List Fq} {q : Nat} {g : Fq} (h : l[q]? = some g) (ht : g.1 = t) (hs : sndF g = true) : (insF t (l.take q)).length + cntF g = (insF t (l.take (q + 1))).length := by
  rw [ins_yes h ht, List.length_append, sts_yes hs, lst_len]
theorem hit_step {l : List Fq} {i q : Nat} {f g : Fq} (h : l[q]? = some g) (hq : q < i) : hitF ((l.take i).take (q + 1)) f = (hitF ((l.take i).take q) f || metF f g) :=
  hit_next (by rw [List.getElem?_take, if_pos hq]; exact h)
theorem hit_full {l : List Fq} {i q : Nat} {f : Fq} (hq : i ≤ q) : hitF ((l.take i).take q) f = hitF (l.take i) f := by
  rw [List.take_of_length_le (by rw [List.length_take]; omega)]
/-- What the inner loop knows: how many starts so far, and whether an earlier interval has a time in common. -/
def CntSt (l : List Fq) (i : Nat) (f : Fq) (q n : Nat) (m : Bool) : Prop := n = (insF f.1 (l.take q)).length ∧ n ≤ 172800000 ∧ m = hitF ((l.take i).take q) f
theorem CntSt.start (l : List Fq) (i : Nat) (f : Fq) : CntSt l i f 0 0 false := ⟨rfl, Nat.zero_le _, rfl⟩
theorem CntSt.skip {l : List Fq} {i q n : Nat} {f g : Fq} {m : Bool} (h : CntSt l i f q n m) (hg : l[q]? = some g) (ht : g.1 ≠ f.1) : CntSt l i f (q + 1) n m := by
  obtain ⟨h1, h2, h3⟩ := h
  refine ⟨by rw [ins_no hg ht]; exact h1, h2, ?_⟩
  by_cases hq : q < i
  · rw [hit_step hg hq, met_other (fun e => ht e.symm), Bool.or_false]
    exact h3
  · rw [hit_full (by omega)]
    rw [hit_full (by omega)] at h3
    exact h3
theorem CntSt.count {l : List Fq} {i q n : Nat} {f g : Fq} {m : Bool} (h : CntSt l i f q n m) (hl : l.length ≤ 1000) (hg : l[q]? = some g) (ht : g.1 = f.1) (hs : sndF g = true) : n + cntF g = (insF f.1 (l.take (q + 1))).length ∧ n + cntF g ≤ 172800000 := by
  obtain ⟨h1, h2, h3⟩ := h
  have e := ins_cnt hg ht hs
  rw [← h1] at e
  refine ⟨e, ?_⟩
  rw [e]
  have h4 := ins_le f.1 (l.take (q + 1))
  have h5 : (l.take (q + 1)).length ≤ 1000 := by rw [List.length_take]; omega
  omega
theorem CntSt.last {l : List Fq} {i q n n' : Nat} {f : Fq} {m : Bool} (h : CntSt l i f q n m) (hn : n' = (insF f.1 (l.take (q + 1))).length ∧ n' ≤ 172800000) (hq : ¬ q < i) : CntSt l i f (q + 1) n' m := by
  refine ⟨hn.1, hn.2, ?_⟩
  have h3 := h.2.2
  rw [hit_full (by omega)] at h3 ⊢
  exact h3
theorem CntSt.apart {l : List Fq} {i q n n' : Nat} {f g : Fq} {m : Bool} (h : CntSt l i f q n m) (hn : n' = (insF f.1 (l.take (q + 1))).length ∧ n' ≤ 172800000) (hg : l[q]? = some g) (hq : q < i) (hm : metF f g = false) : CntSt l i f (q + 1) n' m := by
  refine ⟨hn.1, hn.2, ?_⟩
  rw [hit_step hg hq, hm, Bool.or_false]
  exact h.2.2
theorem CntSt.meets {l : List Fq} {i q n n' : Nat} {f g : Fq} {m : Bool} (_ : CntSt l i f q n m) (hn : n' = (insF f.1 (l.take (q + 1))).length ∧ n' ≤ 172800000) (hg : l[q]? = some g) (hq : q < i) (hm : metF f g = true) : CntSt l i f (q + 1) n' true := by
  refine ⟨hn.1, hn.2, ?_⟩
  rw [hit_step hg hq, hm, Bool.or_true]
theorem CntSt.done {l : List Fq} {i q n : Nat} {f : Fq} {m : Bool} (h : CntSt l i f q n m) (hf : l[i]? = some f) (hq : q = i + 1) : n = (insF f.1 (l.take i ++ [f])).length ∧ m = hitF (l.take i) f := by
  obtain ⟨h1, h2, h3⟩ := h
  subst hq
  rw [hit_full (by omega)] at h3
  rw [← take_at l i f hf]
  exact ⟨h1, h3⟩
set_option maxRecDepth 100000 in
set_option maxHeartbeats 16000000 in
theorem rchk_any (vl : Value) (l : List Fq) (hl : l.length ≤ 1000) (vt : Value) (ts : List Tp) (hts : ∀ x ∈ ts, (clT x).length ≤ 1000000) (w : World) (h : LstF w vl l) (ht : LstTp w vt ts) :
    Calls Try.prog 13 #[vl, vt] w fun e w' => e = .returned (.tuple #[.int .i64 ((chkF (ts.map clT) l).1), .int .i64 ((chkF (ts.map clT) l).2)]) ∧ Below w.heap.size w w' := by
  have H := Lib.hid h
  have HT := Lib.hid ht
  have HTS := Lib.hid hts
  have TL : Hid ((ts.map clT).length = ts.length) := List.length_map _
  obtain ⟨A, n, rfl, -, -, -⟩ := h
  obtain ⟨⟨D, m, rfl, -, -, -⟩, -⟩ := ht
  obtain ⟨q, hq⟩ : ∃ q, chkF (ts.map clT) l = q := ⟨_, rfl⟩
  rw [hq]
  by_cases h0 : 64 < l.length
  · have E : Hid (q = (0, 5)) := by rw [← hq]; exact chkF_many h0
    have g : (64 : Int) < (l.length : Int) := by omega
    clear hq hts hl h0
    go_enter Try.func13, Try.ntmps13
    go_wp2_with fail
    go_ret2
    exact ⟨ret_chk (by rw [E.out]) (by rw [E.out]), Below.refl _ _⟩
  have ST : Hid (q = fbF (badF (ts.map clT)) (fun f => f) ((l.take 0).map fun f => f) 0 (l.drop 0)) := by rw [← hq]; exact chkF_start h0
  have g : decide ((64 : Int) < (l.length : Int)) = false := decide_eq_false (by omega)
  have g' : decide (64 < l.length) = false := decide_eq_false h0
  clear hq hts h0
  go_enter Try.func13, Try.ntmps13
  go_wp2_with fail
  go_loopw [6] (fun i wr => ∃ k : Nat, i = .int .i64 k ∧ k ≤ l.length ∧ Hid (q = fbF (badF (ts.map clT)) (fun f => f) ((l.take k).map fun f => f) k (l.drop k)) ∧ Hid (∀ (j : Nat) f, j < k → l[j]? = some f → sndF f = true) ∧ Hid (Below w.heap.size w wr)) (fun i _ => l.length - (intOf i).toNat)
  case atStart => exact ⟨0, rfl, Nat.zero_le _, ST, Lib.hid (fun j f hj => absurd hj (Nat.not_lt_zero _)), Lib.hid (Below.refl _ _)⟩
  case round =>
    clear ST g g'
    obtain ⟨i, rfl, hk, hz, HALL, HB⟩ := hrel
    by_cases hlt : i < l.length
    · obtain ⟨⟨t, a, b, v⟩, hf⟩ := at_lt hlt
      obtain ⟨p, o, rfl, hp, m0, m1, m2, m3⟩ := four_at (H.out.below HB.out) hf
      have gi : (i : Int) < (l.length : Int) := by omega
      obtain ⟨w7, hw7⟩ : ∃ W, wr.alloc (boxF t a b v) = W := ⟨_, rfl⟩
      obtain ⟨b7, p0, p1, p2, p3, s7, c7⟩ := box_fq hw7
      have B7 : Hid (Below w.heap.size w w7) := HB.out.trans (b7.mono HB.out.size)
      have C7 := Lib.hid c7
      have S7 := Lib.hid s7
      have HF := Lib.hid hf
      have HZ := Lib.hid (fun e he hne => ck_stopF (e := e) hz.out hf he hne)
      have HN := Lib.hid (fun he => ck_nextF hz.out hf he)
      clear b7 c7 s7 hp hf hz HB
      by_cases n0 : t < 0
      · have R := Lib.hid (HZ.out 9 (badF_ref (.inl n0)) (by decide))
        clear HZ HN
        go_wp2_with fail
        go_ret2
        exact ⟨ret_chk (by rw [R.out]) (by rw [R.out]), B7.out⟩
      have g0 : decide (t < 0) = false := decide_eq_false n0
      by_cases n1 : (ts.length : Int) ≤ t
      · have R := Lib.hid (HZ.out 9 (badF_ref (.inr (by rw [TL.out]; exact n1))) (by decide))
        clear HZ HN
        go_wp2_with fail
        go_ret2
        exact ⟨ret_chk (by rw [R.out]) (by rw [R.out]), B7.out⟩
      have n2 : ¬ ((ts.map clT).length : Int) ≤ t := by rw [TL.out]; exact n1
      obtain ⟨N, rfl⟩ : ∃ N : Nat, t = (N : Int) := ⟨t.toNat, by omega⟩
      have g1 : decide ((ts.length : Int) ≤ (N : Int)) = false := decide_eq_false n1
      have g1' : decide (ts.length ≤ N) = false := decide_eq_false (by omega)
      have D1 := Lib.hid (fun d os => Calls.regrown_of (w := w7) (d := d) (os := os) (rsnd_any (N : Int) a b v _))
      have Q0 := fun d os => cell_regrown p0 d os
      have Q1 := fun d os => cell_regrown p1 d os
      have Q2 := fun d os => cell_regrown p2 d os
      have Q3 := fun d os => cell_regrown p3 d os
      cases h3 : sndF ((N : Int), a, b, v) with
      | false =>
        rw [h3] at D1
        have R := Lib.hid (HZ.out 10 (badF_sound n0 n2 h3) (by decide))
        clear HZ HN h3 n0 n1 n2
        go_wp2_with fail
        refine wp_region_quiet_below (by kernel_rfl) (by kernel_rfl) ?_
        repeat (go_big_quiet_step (first | with_reducible exact D1.out _ _))
        refine wpQuiet_nil ?_
        intro w1 hw1
        have B1 : Hid (Below w.heap.size w w1) := by
          obtain ⟨p, rfl⟩ := hw1
          exact B7.out.trans ((below_regrown w7 p.d p.os).mono B7.out.size)
        clear hw1 D1 Q0 Q1 Q2 Q3
        go_wp2_with fail
        go_ret2
        exact ⟨ret_chk (by rw [R.out]) (by rw [R.out]), B1.out⟩
      | true =>
        rw [h3] at D1
        obtain ⟨⟨id, rr, kk, ff, cv, cl⟩, hx⟩ := at_lt (show N < ts.length by omega)
        obtain ⟨nm, hnm⟩ : ∃ nm, str id = nm := ⟨_, rfl⟩
        have HT7 := Lib.hid (HT.out.below B7.out)
        obtain ⟨bt, ot, BB, mm, rfl, rfl, hbt, r0, r1, r2, r3, r4, lc, -, oc⟩ := trip_at HT7.out hx hnm
        have hcl : cl.length ≤ 1000000 := HTS.out _ (List.mem_iff_getElem?.2 ⟨N, hx⟩)
        have HC : clsF (ts.map clT) ((N : Int), a, b, v) = cl := cls_at (n := N) rfl (by rw [List.getElem?_map, hx]; rfl)
        have J0 := fun d os => cell_regrown r0 d os
        have J1 := fun d os => cell_regrown r1 d os
        have J2 := fun d os => cell_regrown r2 d os
        have J3 := fun d os => cell_regrown r3 d os
        have J4 := fun d os => cell_regrown r4 d os
        have D2 := Lib.hid (fun d os => Calls.regrown_of (w := w7) (d := d) (os := os) (rfits_any nm rr kk ff (.slice BB cl.length mm) cl hcl oc (N : Int) a b v h3 _ (lc.below (below_regrown w7 d os))))
        have e0 : allF cl ((N : Int), a, b, v) = allF (clsF (ts.map clT) ((N : Int), a, b, v)) ((N : Int), a, b, v) := by rw [HC]
        rw [e0] at D2
        have gN : (N : Int) < (ts.length : Int) := by omega
        clear e0 HC hx hnm lc oc hcl HT7 hbt
        cases h4 : allF (clsF (ts.map clT) ((N : Int), a, b, v)) ((N : Int), a, b, v) with
        | false =>
          rw [h4] at D2
          have R := Lib.hid (HZ.out 10 (badF_time n0 n2 h4) (by decide))
          clear HZ HN h3 h4 n0 n1 n2
          go_wp2_with fail
          refine wp_region_quiet_below (by kernel_rfl) (by kernel_rfl) ?_
          repeat (go_big_quiet_step (first | with_reducible exact D1.out _ _ | with_reducible exact D2.out _ _))
          refine wpQuiet_nil ?_
          intro w1 hw1
          have B1 : Hid (Below w.heap.size w w1) := by
            obtain ⟨p, rfl⟩ := hw1
            exact B7.out.trans ((below_regrown w7 p.d p.os).mono B7.out.size)
          clear hw1 D1 Q0 Q1 Q2 Q3
          clear J0 J1 J2 J3 J4 D2
          go_wp2_with fail
          go_ret2
          exact ⟨ret_chk (by rw [R.out]) (by rw [R.out]), B1.out⟩
        | true =>
          rw [h4] at D2
          have SF := Lib.hid h3
          have BM := Lib.hid (fun h5 => badF_many (ts := ts.map clT) (seen := l.take i) n0 n2 h3 h4 h5)
          have BT := Lib.hid (fun h5 h6 => badF_met (ts := ts.map clT) (seen := l.take i) n0 n2 h3 h4 h5 h6)
          have BN := Lib.hid (fun h5 h6 => badF_none (ts := ts.map clT) (seen := l.take i) n0 n2 h3 h4 h5 h6)
          clear h3 h4 n0 n1 n2
          go_wp2_with fail
          refine wp_region_quiet_below (by kernel_rfl) (by kernel_rfl) ?_
          repeat (go_big_quiet_step (first | with_reducible exact D1.out _ _ | with_reducible exact D2.out _ _))
          refine wpQuiet_nil ?_
          intro w1 hw1
          have K1 : Hid (Below w7.heap.size w7 w1) := by
            obtain ⟨p, rfl⟩ := hw1
            exact below_regrown w7 p.d p.os
          have B1 : Hid (Below w.heap.size w w1) := by
            obtain ⟨p, rfl⟩ := hw1
            exact B7.out.trans ((below_regrown w7 p.d p.os).mono B7.out.size)
          clear hw1 D1 Q0 Q1 Q2 Q3
          clear J0 J1 J2 J3 J4 D2 r0 r1 r2 r3 r4 g0 g1 g1' gN m0 m1 m2 m3
          go_wp2_with fail
          go_loopw [8, 9, 10] (fun cn mt j wr => ∃ (x : Nat) (y : Bool) (z : Nat), cn = .int .i64 (x : Int) ∧ mt = .bool y ∧ j = .int .i64 (z : Int) ∧ z ≤ i + 1 ∧ x ≤ 172800000 ∧ Hid (CntSt l i ((N : Int), a, b, v) z x y) ∧ Hid (Below w1.heap.size w1 wr)) (fun _ _ j _ => i + 1 - (intOf j).toNat)
          case atStart => exact ⟨0, false, 0, rfl, rfl, rfl, Nat.zero_le _, Nat.zero_le _, Lib.hid (CntSt.start l i _), Lib.hid (Below.refl _ _)⟩
          case round =>
            obtain ⟨x, y, z, rfl, rfl, rfl, hzz, hxx, HC, HW⟩ := hrel
            obtain ⟨f0, f1, f2, f3⟩ := row_fq ((HW.out.block _ (Nat.lt_of_lt_of_le S7.out K1.out.size)).trans ((K1.out.block _ S7.out).trans C7.out))
            by_cases hzi : z ≤ i
            · obtain ⟨⟨t', a', b', v'⟩, hg⟩ := at_lt (show z < l.length by omega)
              obtain ⟨p', o', e', hp', k0, k1, k2, k3⟩ := four_at (H.out.below (B1.out.trans (HW.out.mono B1.out.size))) hg
              cases e'
              have gz : (z : Int) ≤ (i : Int) := by omega
              have gzl : (z : Int) < (l.length : Int) := by omega
              by_cases he : t' = (N : Int)
              · have d0 := neq_false he
                have sg : sndF (t', a', b', v') = true := by
                  by_cases hzk : z < i
                  · exact HALL.out z _ hzk hg
                  · obtain rfl : z = i := by omega
                    have := hg.symm.trans HF.out
                    cases this
                    exact SF.out
                have CC := HC.out.count hl hg he sg
                have CG := Lib.hid (fun W (hW : Below wr.heap.size wr W) => far_bool (rcnt_any t' a' b' v' sg W) hW)
                obtain ⟨cg, hcg⟩ : ∃ cg, cntF (t', a', b', v') = cg := ⟨_, rfl⟩
                rw [hcg] at CC CG
                have CH := Lib.hid CC
                have hc2 : x + cg ≤ 172800000 := CC.2
                have HP := Lib.hid hp'
                have HG := Lib.hid hg
                have HE := Lib.hid he
                clear CC hcg sg hp' hg he
                by_cases hzk : z < i
                · have gk : (z : Int) < (i : Int) := by omega
                  by_cases hA : a' < b
                  · by_cases hB : a < b'
                    · have N1 := Lib.hid (HC.out.meets CH.out HG.out hzk (met_yes (f := ((N : Int), a, b, v)) (g := (t', a', b', v')) HE.out.symm hA hB))
                      clear HC HG HE CH hzk
                      go_wp2_with fail
                      go_quiet (fail)
                      have bq := below_drewN (Below.refl wr.heap.size wr) nq
                      have C4 := Lib.hid (CG.out _ bq)
                      have k0' := (bq.cell (p := ⟨p, o + z * 4, none⟩) HP.out).trans k0
                      have k1' := (bq.cell (p := ⟨p, o + z * 4 + 1, none⟩) HP.out).trans k1
                      have k2' := (bq.cell (p := ⟨p, o + z * 4 + 2, none⟩) HP.out).trans k2
                      have k3' := (bq.cell (p := ⟨p, o + z * 4 + 3, none⟩) HP.out).trans k3
                      generalize wr.drewN nq = w4 at bq C4 k0' k1' k2' k3' ⊢
                      go_wp2_with fail
                      refine C4.out.mono ?_
                      rintro e w5 ⟨rfl, b5⟩
                      have W5 : Hid (Below w1.heap.size w1 w5) := HW.out.trans (b5.mono HW.out.size)
                      obtain ⟨f0', f1', f2', f3'⟩ := row_fq ((W5.out.block _ (Nat.lt_of_lt_of_le S7.out K1.out.size)).trans ((K1.out.block _ S7.out).trans C7.out))
                      have k1'' := (b5.cell (p := ⟨p, o + z * 4 + 1, none⟩) HP.out).trans k1
                      have k2'' := (b5.cell (p := ⟨p, o + z * 4 + 2, none⟩) HP.out).trans k2
                      clear bq b5 C4 CG HW k0' k1' k2' k3' k0 k1 k2 k3 f0 f1 f2 f3
                      go_wp2_with fail
                      go_quiet (fail)
                      have bq := below_drewN (Below.refl w5.heap.size w5) nq
                      generalize w5.drewN nq = w6 at bq ⊢
                      have W6 : Hid (Below w1.heap.size w1 w6) := W5.out.trans (bq.mono W5.out.size)
                      clear bq W5 k1'' k2'' f0' f1' f2' f3'
                      go_wp2_with fail
                      go_roundw
                      case rel => exact ⟨x + cg, true, z + 1, by go_num, rfl, by go_num, by omega, hc2, N1, W6⟩
                      case measure => simp [intOf]; omega
                    · have dB : decide (a < b') = false := decide_eq_false hB
                      have N1 := Lib.hid (HC.out.apart CH.out HG.out hzk (met_b (f := ((N : Int), a, b, v)) (g := (t', a', b', v')) HE.out.symm hB))
                      clear HC HG HE CH hB hzk
                      go_wp2_with fail
                      go_quiet (fail)
                      have bq := below_drewN (Below.refl wr.heap.size wr) nq
                      have C4 := Lib.hid (CG.out _ bq)
                      have k0' := (bq.cell (p := ⟨p, o + z * 4, none⟩) HP.out).trans k0
                      have k1' := (bq.cell (p := ⟨p, o + z * 4 + 1, none⟩) HP.out).trans k1
                      have k2' := (bq.cell (p := ⟨p, o + z * 4 + 2, none⟩) HP.out).trans k2
                      have k3' := (bq.cell (p := ⟨p, o + z * 4 + 3, none⟩) HP.out).trans k3
                      generalize wr.drewN nq = w4 at bq C4 k0' k1' k2' k3' ⊢
                      go_wp2_with fail
                      refine C4.out.mono ?_
                      rintro e w5 ⟨rfl, b5⟩
                      have W5 : Hid (Below w1.heap.size w1 w5) := HW.out.trans (b5.mono HW.out.size)
                      obtain ⟨f0', f1', f2', f3'⟩ := row_fq ((W5.out.block _ (Nat.lt_of_lt_of_le S7.out K1.out.size)).trans ((K1.out.block _ S7.out).trans C7.out))
                      have k1'' := (b5.cell (p := ⟨p, o + z * 4 + 1, none⟩) HP.out).trans k1
                      have k2'' := (b5.cell (p := ⟨p, o + z * 4 + 2, none⟩) HP.out).trans k2
                      clear bq b5 C4 CG HW k0' k1' k2' k3' k0 k1 k2 k3 f0 f1 f2 f3
                      go_wp2_with fail
                      go_quiet (fail)
                      have bq := below_drewN (Below.refl w5.heap.size w5) nq
                      generalize w5.drewN nq = w6 at bq ⊢
                      have W6 : Hid (Below w1.heap.size w1 w6) := W5.out.trans (bq.mono W5.out.size)
                      clear bq W5 k1'' k2'' f0' f1' f2' f3'
                      go_wp2_with fail
                      go_roundw
                      case rel => exact ⟨x + cg, y, z + 1, by go_num, rfl, by go_num, by omega, hc2, N1, W6⟩
                      case measure => simp [intOf]; omega
                  · have dA : decide (a' < b) = false := decide_eq_false hA
                    have N1 := Lib.hid (HC.out.apart CH.out HG.out hzk (met_a (f := ((N : Int), a, b, v)) (g := (t', a', b', v')) HE.out.symm hA))
                    clear HC HG HE CH hA hzk
                    go_wp2_with fail
                    go_quiet (fail)
                    have bq := below_drewN (Below.refl wr.heap.size wr) nq
                    have C4 := Lib.hid (CG.out _ bq)
                    have k0' := (bq.cell (p := ⟨p, o + z * 4, none⟩) HP.out).trans k0
                    have k1' := (bq.cell (p := ⟨p, o + z * 4 + 1, none⟩) HP.out).trans k1
                    have k2' := (bq.cell (p := ⟨p, o + z * 4 + 2, none⟩) HP.out).trans k2
                    have k3' := (bq.cell (p := ⟨p, o + z * 4 + 3, none⟩) HP.out).trans k3
                    generalize wr.drewN nq = w4 at bq C4 k0' k1' k2' k3' ⊢
                    go_wp2_with fail
                    refine C4.out.mono ?_
                    rintro e w5 ⟨rfl, b5⟩
                    have W5 : Hid (Below w1.heap.size w1 w5) := HW.out.trans (b5.mono HW.out.size)
                    obtain ⟨f0', f1', f2', f3'⟩ := row_fq ((W5.out.block _ (Nat.lt_of_lt_of_le S7.out K1.out.size)).trans ((K1.out.block _ S7.out).trans C7.out))
                    have k1'' := (b5.cell (p := ⟨p, o + z * 4 + 1, none⟩) HP.out).trans k1
                    have k2'' := (b5.cell (p := ⟨p, o + z * 4 + 2, none⟩) HP.out).trans k2
                    clear bq b5 C4 CG HW k0' k1' k2' k3' k0 k1 k2 k3 f0 f1 f2 f3
                    go_wp2_with fail
                    go_quiet (fail)
                    have bq := below_drewN (Below.refl w5.heap.size w5) nq
                    generalize w5.drewN nq = w6 at bq ⊢
                    have W6 : Hid (Below w1.heap.size w1 w6) := W5.out.trans (bq.mono W5.out.size)
                    clear bq W5 k1'' k2'' f0' f1' f2' f3'
                    go_wp2_with fail
                    go_roundw
                    case rel => exact ⟨x + cg, y, z + 1, by go_num, rfl, by go_num, by omega, hc2, N1, W6⟩
                    case measure => simp [intOf]; omega
                · have dk : decide (z < i) = false := decide_eq_false hzk
                  have dk' : decide ((z : Int) < (i : Int)) = false := decide_eq_false (by omega)
                  have N1 := Lib.hid (HC.out.last CH.out hzk)
                  clear HC HG HE CH hzk
                  go_wp2_with fail
                  go_quiet (fail)
                  have bq := below_drewN (Below.refl wr.heap.size wr) nq
                  have C4 := Lib.hid (CG.out _ bq)
                  have k0' := (bq.cell (p := ⟨p, o + z * 4, none⟩) HP.out).trans k0
                  have k1' := (bq.cell (p := ⟨p, o + z * 4 + 1, none⟩) HP.out).trans k1
                  have k2' := (bq.cell (p := ⟨p, o + z * 4 + 2, none⟩) HP.out).trans k2
                  have k3' := (bq.cell (p := ⟨p, o + z * 4 + 3, none⟩) HP.out).trans k3
                  generalize wr.drewN nq = w4 at bq C4 k0' k1' k2' k3' ⊢
                  go_wp2_with fail
                  refine C4.out.mono ?_
                  rintro e w5 ⟨rfl, b5⟩
                  have W5 : Hid (Below w1.heap.size w1 w5) := HW.out.trans (b5.mono HW.out.size)
                  obtain ⟨f0', f1', f2', f3'⟩ := row_fq ((W5.out.block _ (Nat.lt_of_lt_of_le S7.out K1.out.size)).trans ((K1.out.block _ S7.out).trans C7.out))
                  have k1'' := (b5.cell (p := ⟨p, o + z * 4 + 1, none⟩) HP.out).trans k1
                  have k2'' := (b5.cell (p := ⟨p, o + z * 4 + 2, none⟩) HP.out).trans k2
                  clear bq b5 C4 CG HW k0' k1' k2' k3' k0 k1 k2 k3 f0 f1 f2 f3
                  go_wp2_with fail
                  go_quiet (fail)
                  have bq := below_drewN (Below.refl w5.heap.size w5) nq
                  generalize w5.drewN nq = w6 at bq ⊢
                  have W6 : Hid (Below w1.heap.size w1 w6) := W5.out.trans (bq.mono W5.out.size)
                  clear bq W5 k1'' k2'' f0' f1' f2' f3'
                  go_wp2_with fail
                  go_roundw
                  case rel => exact ⟨x + cg, y, z + 1, by go_num, rfl, by go_num, by omega, hc2, N1, W6⟩
                  case measure => simp [intOf]; omega
              · have d0 := bne_true he
                have N1 := Lib.hid (HC.out.skip hg he)
                clear hg hp' he HC
                go_wp2_with fail
                go_quiet (fail)
                have bq := below_drewN (Below.refl wr.heap.size wr) nq
                generalize wr.drewN nq = w4 at bq ⊢
                have W4 : Hid (Below w1.heap.size w1 w4) := HW.out.trans (bq.mono HW.out.size)
                clear bq HW
                go_wp2_with fail
                go_roundw
                case rel => exact ⟨x, y, z + 1, rfl, rfl, by go_num, by omega, hxx, N1, W4⟩
                case measure => simp [intOf]; omega
            · have dz : decide (z ≤ i) = false := decide_eq_false hzi
              have dz' : decide ((z : Int) ≤ (i : Int)) = false := decide_eq_false (by omega)
              obtain ⟨e1, e2⟩ := HC.out.done HF.out (by omega)
              have B2 : Hid (Below w.heap.size w wr) := B1.out.trans (HW.out.mono B1.out.size)
              have E1 := Lib.hid e1
              clear HC HW e1 f0 f1 f2 f3 hzi hzz
              by_cases h5 : 256 < x
              · have R := Lib.hid (HZ.out 17 (BM.out (by rw [← E1.out]; exact h5)) (by decide))
                have g5 : (256 : Int) < (x : Int) := by omega
                clear HZ HN BM BT BN e2 h5
                go_wp2_with fail
                go_ret2
                exact ⟨ret_chk (by rw [R.out]) (by rw [R.out]), B2.out⟩
              have g5 : decide ((256 : Int) < (x : Int)) = false := decide_eq_false (by omega)
              have g5' : decide (256 < x) = false := decide_eq_false h5
              cases y with
              | true =>
                have R := Lib.hid (HZ.out 8 (BT.out (by rw [← E1.out]; exact h5) e2.symm) (by decide))
                clear HZ HN BM BT BN e2 h5
                go_wp2_with fail
                go_ret2
                exact ⟨ret_chk (by rw [R.out]) (by rw [R.out]), B2.out⟩
              | false =>
                have R := Lib.hid (HN.out (BN.out (by rw [← E1.out]; exact h5) e2.symm))
                have A2 : Hid (∀ (j : Nat) f, j < i + 1 → l[j]? = some f → sndF f = true) := by
                  intro j f hj hjf
                  by_cases hji : j < i
                  · exact HALL.out j f hji hjf
                  · obtain rfl : j = i := by omega
                    have := hjf.symm.trans HF.out
                    cases this
                    exact SF.out
                clear HZ HN BM BT BN e2 h5 HALL
                go_wp2_with fail
                go_roundw
                case rel => exact ⟨i + 1, by go_num, by omega, R, A2, B2⟩
                case measure => simp [intOf]; omega
    · have R := Lib.hid (ck_doneF hz.out (by omega))
      have d : decide (i < l.length) = false := by rw [decide_eq_false_iff_not]; exact hlt
      clear hz hlt HALL
      go_wp2_with fail
      go_ret2
      exact ⟨ret_chk (by rw [R.out]) (by rw [R.out]), HB.out⟩
end Go.Proofs.Ytahnaidkobodaaa
