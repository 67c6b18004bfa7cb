/-
  The reference's calls, one, Check of tables of trips: what each call answers; nothing that existed before the call has changed behind it. Condition: lists of fewer than 2^40 trips.
-/
import Derived.Test.YtfbobfejnbhjbaaDoorTrFnd
namespace Go.Proofs.YtfbobfejnbhjbaaDoor
open Go.RowKit

set_option maxRecDepth 100000 in
set_option maxHeartbeats 8000000 in
theorem rcalls_any (v : Value) (l : List Cl) (hl : l.length ≤ 9223372036854775807) (st : Int) (w : World) (h : LstC w v l) : Calls Tryd.prog 44 #[v, .int .i64 st] w fun e w' => e = .returned (.int .i64 ((chkC st 0 172800 l).2)) ∧ Below w.heap.size w w' := by
  have H := Lib.hid h
  obtain ⟨A, c, rfl, -, -, -⟩ := h
  by_cases h2 : l.length < 2
  · have R := Lib.hid (chkC_few (st := st) (lo := 0) (hi := 172800) h2)
    have g : (l.length : Int) < 2 := by omega
    generalize chkC st 0 172800 l = q at R ⊢
    clear h2
    go_enter Tryd.func44, Tryd.ntmps44
    go_wp2_with fail
    go_ret
    exact ⟨ret_int (by rw [R.out]), Below.refl _ _⟩
  have g2 : decide ((l.length : Int) < 2) = false := by rw [decide_eq_false_iff_not]; omega
  by_cases h32 : 32 < l.length
  · have R := Lib.hid (chkC_many (st := st) (lo := 0) (hi := 172800) h32)
    have g : (32 : Int) < (l.length : Int) := by omega
    generalize chkC st 0 172800 l = q at R ⊢
    clear h32 h2
    go_enter Tryd.func44, Tryd.ntmps44
    go_wp2_with fail
    go_ret
    exact ⟨ret_int (by rw [R.out]), Below.refl _ _⟩
  have g : decide ((32 : Int) < (l.length : Int)) = false := by rw [decide_eq_false_iff_not]; omega
  have ST := Lib.hid (chkC_start (st := st) (lo := 0) (hi := 172800) h2 h32)
  obtain ⟨q, hq⟩ : ∃ q, chkC st 0 172800 l = q := ⟨_, rfl⟩
  rw [hq]
  rw [hq] at ST
  clear h32 hq h2
  go_enter Tryd.func44, Tryd.ntmps44
  go_wp2_with fail
  go_loopw [5] (fun i wr => ∃ k : Nat, i = .int .i64 k ∧ k ≤ l.length ∧ Hid (q = ckF st 0 172800 (prvC l k) k (l.drop k)) ∧ Hid (Below w.heap.size w wr)) (fun i _ => l.length - (intOf i).toNat)
  case atStart => exact ⟨0, rfl, Nat.zero_le _, ST, Lib.hid (Below.refl _ _)⟩
  case round =>
    clear g g2 ST
    obtain ⟨k, rfl, hk, hz, HB⟩ := hrel
    by_cases hlt : k < l.length
    · obtain ⟨⟨s, a, d, o, u⟩, hx⟩ := at_lt hlt
      obtain ⟨b, f, rfl, hb, r0, r1, r2, r3, r4⟩ := five_at (H.out.below HB.out) hx
      have gk : (k : Int) < (l.length : Int) := by omega
      have B7 := Lib.hid HB.out
      clear hb
      by_cases k0 : k = 0
      · have hp : prvC l k = none := by rw [k0]; rfl
        have gn : decide ((0 : Int) < (k : Int)) = false := by rw [decide_eq_false_iff_not]; omega
        have gn' : decide (0 < k) = false := by rw [decide_eq_false_iff_not]; omega
        clear k0
        by_cases h1 : s < 0
        · have R := Lib.hid (ck_stop (e := 9) hz.out hx (by rw [hp]; exact badC_ref (st := st) (lo := 0) (hi := 172800) (p := none) (x := (s, a, d, o, u)) (.inl h1)) (by decide))
          clear hz hx hp HB 
          go_wp2_with fail
          go_ret
          exact ⟨ret_int (by rw [R.out]), B7.out⟩
        have d1 : decide (s < 0) = false := decide_eq_false h1
        by_cases h2 : st ≤ s
        · have R := Lib.hid (ck_stop (e := 9) hz.out hx (by rw [hp]; exact badC_ref (st := st) (lo := 0) (hi := 172800) (p := none) (x := (s, a, d, o, u)) (.inr h2)) (by decide))
          clear hz hx hp HB h1
          go_wp2_with fail
          go_ret
          exact ⟨ret_int (by rw [R.out]), B7.out⟩
        have d2 : decide (st ≤ s) = false := decide_eq_false h2
        by_cases h4 : a < 0
        · have R := Lib.hid (ck_stop (e := 10) hz.out hx (by rw [hp]; exact badC_time (st := st) (lo := 0) (hi := 172800) (p := none) (x := (s, a, d, o, u)) h1 h2 onC_none (.inl h4)) (by decide))
          clear hz hx hp HB h1 h2
          go_wp2_with fail
          go_quiet (fail)
          go_wp2_with fail
          go_quiet (fail)
          go_wp2_with fail
          go_ret
          exact ⟨ret_int (by rw [R.out]), below_drewN (below_drewN B7.out _) _⟩
        have d4 : decide (a < 0) = false := decide_eq_false h4
        by_cases h5 : d < a
        · have R := Lib.hid (ck_stop (e := 10) hz.out hx (by rw [hp]; exact badC_time (st := st) (lo := 0) (hi := 172800) (p := none) (x := (s, a, d, o, u)) h1 h2 onC_none (.inr (.inl h5))) (by decide))
          clear hz hx hp HB h1 h2 h4
          go_wp2_with fail
          go_quiet (fail)
          go_wp2_with fail
          go_quiet (fail)
          go_wp2_with fail
          go_ret
          exact ⟨ret_int (by rw [R.out]), below_drewN (below_drewN B7.out _) _⟩
        have d5 : decide (d < a) = false := decide_eq_false h5
        by_cases h6 : (172800 : Int) < d
        · have R := Lib.hid (ck_stop (e := 10) hz.out hx (by rw [hp]; exact badC_time (st := st) (lo := 0) (hi := 172800) (p := none) (x := (s, a, d, o, u)) h1 h2 onC_none (.inr (.inr h6))) (by decide))
          clear hz hx hp HB h1 h2 h4 h5
          go_wp2_with fail
          go_quiet (fail)
          go_wp2_with fail
          go_quiet (fail)
          go_wp2_with fail
          go_ret
          exact ⟨ret_int (by rw [R.out]), below_drewN (below_drewN B7.out _) _⟩
        have d6 : decide ((172800 : Int) < d) = false := decide_eq_false h6
        have N := Lib.hid (ck_next hz.out hx (by rw [hp]; exact badC_none (st := st) (lo := 0) (hi := 172800) (p := none) (x := (s, a, d, o, u)) h1 h2 onC_none h4 h5 h6 ovC_none))
        clear hz hx hp HB h1 h2 h4 h5 h6
        go_wp2_with fail
        go_quiet (fail)
        go_wp2_with fail
        go_quiet (fail)
        go_wp2_with fail
        go_roundw
        case rel => exact ⟨k + 1, by go_num, by omega, N, Lib.hid (below_drewN B7.out _)⟩
        case measure => simp [intOf]; omega
      · obtain ⟨m, hm⟩ : ∃ m, k = m + 1 := ⟨k - 1, by omega⟩
        obtain ⟨⟨s1, a1, t1, o1, u1⟩, hy⟩ := at_lt (show m < l.length by omega)
        have hp : prvC l k = some (s1, a1, t1, o1, u1) := by rw [hm]; exact hy
        obtain ⟨b', f', hA, hb', q0, q1, q2, -, -⟩ := five_at (H.out.below B7.out) hy
        cases hA
        have gm : (m : Int) < (l.length : Int) := by omega
        have gn : (0 : Int) < (k : Int) := by omega
        have gn' : 0 < k := by omega
        have gs : (k : Int) - 1 = (m : Int) := by omega
        clear k0 hm hy hb'
        by_cases h1 : s < 0
        · have R := Lib.hid (ck_stop (e := 9) hz.out hx (by rw [hp]; exact badC_ref (st := st) (lo := 0) (hi := 172800) (p := some (s1, a1, t1, o1, u1)) (x := (s, a, d, o, u)) (.inl h1)) (by decide))
          clear hz hx hp HB 
          go_wp2_with fail
          go_ret
          exact ⟨ret_int (by rw [R.out]), B7.out⟩
        have d1 : decide (s < 0) = false := decide_eq_false h1
        by_cases h2 : st ≤ s
        · have R := Lib.hid (ck_stop (e := 9) hz.out hx (by rw [hp]; exact badC_ref (st := st) (lo := 0) (hi := 172800) (p := some (s1, a1, t1, o1, u1)) (x := (s, a, d, o, u)) (.inr h2)) (by decide))
          clear hz hx hp HB h1
          go_wp2_with fail
          go_ret
          exact ⟨ret_int (by rw [R.out]), B7.out⟩
        have d2 : decide (st ≤ s) = false := decide_eq_false h2
        by_cases h3 : s = s1
        · have e3 := beq_true h3
          have R := Lib.hid (ck_stop (e := 13) hz.out hx (by rw [hp]; exact badC_stop (st := st) (lo := 0) (hi := 172800) (p := some (s1, a1, t1, o1, u1)) (x := (s, a, d, o, u)) h1 h2 (onC_yes h3)) (by decide))
          clear hz hx hp HB h1 h2 h3
          go_wp2_with fail
          go_quiet (fail)
          go_wp2_with fail
          go_ret
          exact ⟨ret_int (by rw [R.out]), below_drewN B7.out _⟩
        have e3 := beq_false h3
        by_cases h4 : a < 0
        · have R := Lib.hid (ck_stop (e := 10) hz.out hx (by rw [hp]; exact badC_time (st := st) (lo := 0) (hi := 172800) (p := some (s1, a1, t1, o1, u1)) (x := (s, a, d, o, u)) h1 h2 (onC_no h3) (.inl h4)) (by decide))
          clear hz hx hp HB h1 h2 h3
          go_wp2_with fail
          go_quiet (fail)
          go_wp2_with fail
          go_quiet (fail)
          go_wp2_with fail
          go_ret
          exact ⟨ret_int (by rw [R.out]), below_drewN (below_drewN B7.out _) _⟩
        have d4 : decide (a < 0) = false := decide_eq_false h4
        by_cases h5 : d < a
        · have R := Lib.hid (ck_stop (e := 10) hz.out hx (by rw [hp]; exact badC_time (st := st) (lo := 0) (hi := 172800) (p := some (s1, a1, t1, o1, u1)) (x := (s, a, d, o, u)) h1 h2 (onC_no h3) (.inr (.inl h5))) (by decide))
          clear hz hx hp HB h1 h2 h3 h4
          go_wp2_with fail
          go_quiet (fail)
          go_wp2_with fail
          go_quiet (fail)
          go_wp2_with fail
          go_ret
          exact ⟨ret_int (by rw [R.out]), below_drewN (below_drewN B7.out _) _⟩
        have d5 : decide (d < a) = false := decide_eq_false h5
        by_cases h6 : (172800 : Int) < d
        · have R := Lib.hid (ck_stop (e := 10) hz.out hx (by rw [hp]; exact badC_time (st := st) (lo := 0) (hi := 172800) (p := some (s1, a1, t1, o1, u1)) (x := (s, a, d, o, u)) h1 h2 (onC_no h3) (.inr (.inr h6))) (by decide))
          clear hz hx hp HB h1 h2 h3 h4 h5
          go_wp2_with fail
          go_quiet (fail)
          go_wp2_with fail
          go_quiet (fail)
          go_wp2_with fail
          go_ret
          exact ⟨ret_int (by rw [R.out]), below_drewN (below_drewN B7.out _) _⟩
        have d6 : decide ((172800 : Int) < d) = false := decide_eq_false h6
        by_cases h7 : a < t1
        · have R := Lib.hid (ck_stop (e := 10) hz.out hx (by rw [hp]; exact badC_over (st := st) (lo := 0) (hi := 172800) (p := some (s1, a1, t1, o1, u1)) (x := (s, a, d, o, u)) h1 h2 (onC_no h3) h4 h5 h6 (ovC_yes h7)) (by decide))
          clear hz hx hp HB h1 h2 h3 h4 h5 h6
          go_wp2_with fail
          go_quiet (fail)
          go_wp2_with fail
          go_quiet (fail)
          go_wp2_with fail
          go_ret
          exact ⟨ret_int (by rw [R.out]), below_drewN (below_drewN B7.out _) _⟩
        have d7 : decide (a < t1) = false := decide_eq_false h7
        have N := Lib.hid (ck_next hz.out hx (by rw [hp]; exact badC_none (st := st) (lo := 0) (hi := 172800) (p := some (s1, a1, t1, o1, u1)) (x := (s, a, d, o, u)) h1 h2 (onC_no h3) h4 h5 h6 (ovC_no h7)))
        clear hz hx hp HB h1 h2 h3 h4 h5 h6 h7
        go_wp2_with fail
        go_quiet (fail)
        go_wp2_with fail
        go_quiet (fail)
        go_wp2_with fail
        go_roundw
        case rel => exact ⟨k + 1, by go_num, by omega, N, Lib.hid (below_drewN B7.out _)⟩
        case measure => simp [intOf]; omega
    · have R := Lib.hid (ck_done hz.out (by omega))
      have d : decide (k < l.length) = false := by rw [decide_eq_false_iff_not]; exact hlt
      clear hz hlt
      go_wp2_with fail
      go_ret
      exact ⟨ret_int (by rw [R.out]), HB.out⟩

/-- Valid of the reference, whatever the length. -/
theorem rvalid_all_any (s : ByteArray) (w : World) : Calls Tryd.prog 43 #[.string s] w fun e w' => e = .returned (.bool (validB s.data.toList)) ∧ w = w' := by
  by_cases hs : s.size ≤ 1099511627776
  · exact rvalid_any s hs w
  have e := valid_long s (by omega)
  have he : ((s.size : Int) == 0) = false := beq_false (by omega)
  have g : (32 : Int) < (s.size : Int) := by omega
  clear hs
  rw [e]
  go_enter Tryd.func43, Tryd.ntmps43
  go_wp2_with fail
  go_ret
  exact ⟨rfl, rfl⟩
theorem info_tp : (Tryd.prog.info? 39).map (fun i => (i.zero, i.size, i.bytes)) = some (some (.agg #[.string ByteArray.empty, .int .i64 0, .int .i64 0, .bool false, .slice none 0 0]), 5, 64) := by kernel_rfl
theorem size_tp : ∀ w, (Go.sizeOf 39).run Tryd.prog w = .ok 5 w := fun w => by
  obtain ⟨i, hi, _, hsz, _⟩ := info_parts info_tp
  simp [sizeOf, typeInfo, hi, hsz]
theorem elem_tps : Tryd.prog.elem 22 = 39 := by simp [Program.elem, Tryd.underlying22]
theorem under_tps : Tryd.prog.underlying 22 = some (.slice (Tryd.prog.elem 22)) := by rw [elem_tps]; exact Tryd.underlying22
/-- l[:j]. -/
theorem trips_to {w : World} {v : Value} {l : List Tp} (h : LstTp w v l) (j : Nat) (hj : j ≤ l.length) (_ : l.length ≤ 9223372036854775807) (e : Int) (he : e = j) : ∃ x, (∀ W, (Instr.slice 22 v none (some (.int .i64 e)) none).run Tryd.prog W = .ok x W) ∧ LstTp w x (l.take j) := by
  subst he
  obtain ⟨H, ok⟩ := h
  have H' := H
  obtain ⟨A, c, rfl, hc, -, -⟩ := H
  refine ⟨sliced A 0 j c 5, fun W => ?_, ?_, fun x hx => ok x (List.mem_of_mem_take hx)⟩
  · rw [run_slice_h W 22 A l.length c under_tps .i64 j (by omega) (by omega), elem_tps, size_tp]
    rfl
  · have := LstG.part te_len H' 0 j c (Nat.zero_le _) hj (by omega) (Nat.le_refl _)
    rw [List.drop_zero, Nat.sub_zero] at this
    exact this
set_option maxRecDepth 100000 in
set_option maxHeartbeats 8000000 in
theorem rone_any (v : Value) (l : List Tp) (hl : l.length ≤ 1099511627776) (k : Nat) (x : Tp) (hx : l[k]? = some x) (st ro ca : Int) (w : World) (h : LstTp w v l) : Calls Tryd.prog 34 #[v, .int .i64 (k : Int), .int .i64 st, .int .i64 ro, .int .i64 ca] w fun e w' => e = .returned (.int .i64 (badT st ro ca ((l.take k).map idT) x)) ∧ Below w.heap.size w w' := by
  obtain ⟨id, r, c, f, v', cl⟩ := x
  have hkl := (List.getElem?_eq_some_iff.1 hx).1
  have gk : (k : Int) < (l.length : Int) := by omega
  have gk' : (k : Int) ≤ (l.length : Int) := by omega
  obtain ⟨nm, hnm⟩ : ∃ nm, str id = nm := ⟨_, rfl⟩
  obtain ⟨x1, run1, lst1⟩ := trips_to h k (by omega) (by omega) (k : Int) rfl
  obtain ⟨⟨A, n, rfl, -, -, -⟩, -⟩ := _root_.id h
  obtain ⟨b, o, B, m, rfl, rfl, hb, r0, r1, r2, r3, r4, lc, lcl, -⟩ := trip_at h hx hnm
  obtain ⟨w7, hw7⟩ : ∃ W, w.alloc (.cells #[.string nm, .int .i64 r, .int .i64 c, .bool f, .slice B cl.length m] 39 (0, 0)) = W := ⟨_, rfl⟩
  obtain ⟨b7, p0, p1, p2, p3, p4, s7⟩ := box_tp hw7
  have hid : nm.data.toList = id := by rw [← hnm]
  have B7 := Lib.hid b7
  have L7 := Lib.hid (lc.below b7)
  have V := Lib.hid (fun W => rvalid_all_any nm W)
  rw [hid] at V
  have P : Hid (∀ n, LstTp (w7.drewN n) x1 (l.take k)) := fun n => lst1.below (b7.trans (below_drewN (Below.refl _ _) n |>.mono b7.size))
  have F := Lib.hid (fun W (hW : LstTp W x1 (l.take k)) => rfind_any x1 (l.take k) (by rw [List.length_take]; omega) id nm hnm W hW)
  have RC := Lib.hid (fun W (hW : LstC W (.slice B cl.length m) cl) => rcalls_any (.slice B cl.length m) cl lcl st W hW)
  obtain ⟨E, hE⟩ : ∃ E, badT st ro ca ((l.take k).map idT) (id, r, c, f, .slice B cl.length m, cl) = E := ⟨_, rfl⟩
  rw [hE]
  have HE := Lib.hid hE
  clear hE b7 hb lc hx h lst1 hnm hid
  cases hv : validB id with
  | false =>
    have R := Lib.hid (badT_name (st := st) (ro := ro) (ca := ca) (seen := (l.take k).map idT) (x := (id, r, c, f, .slice B cl.length m, cl)) hv)
    rw [hv] at V
    clear hv
    go_enter Tryd.func34, Tryd.ntmps34
    go_wp2_with fail
    refine (V.out _).mono ?_
    rintro e w' ⟨rfl, rfl⟩
    go_wp2_with fail
    go_ret
    exact ⟨ret_int (by rw [← HE.out, R.out]), B7.out⟩
  | true =>
    rw [hv] at V
    by_cases hf : 0 ≤ fdT (isT id) (l.take k)
    · have R := Lib.hid (badT_twice (st := st) (ro := ro) (ca := ca) (x := (id, r, c, f, .slice B cl.length m, cl)) hv (fdt_in hf))
      generalize fdT (isT id) (l.take k) = z at F hf
      clear hv
      go_enter Tryd.func34, Tryd.ntmps34
      go_wp2_with fail
      refine (V.out _).mono ?_
      rintro e w' ⟨rfl, rfl⟩
      go_wp2_with fail
      go_quiet ((go_at_call 17; with_reducible exact Calls.quiet_of_same ((F.out _ (P.out _)).mono fun _ _ ⟨a, b⟩ => ⟨a, b.symm⟩)))
      go_wp2_with fail
      go_ret
      exact ⟨ret_int (by rw [← HE.out, R.out]), below_drewN B7.out _⟩
    have hn := fdt_no hf
    have df : decide (0 ≤ fdT (isT id) (l.take k)) = false := decide_eq_false hf
    generalize fdT (isT id) (l.take k) = z at F hf df
    clear hf
    by_cases h1 : r < 0
    · have R := Lib.hid (badT_ref (st := st) (ro := ro) (ca := ca) (x := (id, r, c, f, .slice B cl.length m, cl)) hv hn (fun h => absurd (show 0 ≤ r from h.1.1) (by omega)))
      clear hv hn
      go_enter Tryd.func34, Tryd.ntmps34
      go_wp2_with fail
      refine (V.out _).mono ?_
      rintro e w' ⟨rfl, rfl⟩
      go_wp2_with fail
      go_quiet ((go_at_call 17; with_reducible exact Calls.quiet_of_same ((F.out _ (P.out _)).mono fun _ _ ⟨a, b⟩ => ⟨a, b.symm⟩)))
      go_wp2_with fail
      go_ret
      exact ⟨ret_int (by rw [← HE.out, R.out]), below_drewN B7.out _⟩
    have d1 : decide (r < 0) = false := decide_eq_false h1
    by_cases h2 : ro ≤ r
    · have R := Lib.hid (badT_ref (st := st) (ro := ro) (ca := ca) (x := (id, r, c, f, .slice B cl.length m, cl)) hv hn (fun h => absurd (show r < ro from h.1.2) (by omega)))
      clear hv hn
      go_enter Tryd.func34, Tryd.ntmps34
      go_wp2_with fail
      refine (V.out _).mono ?_
      rintro e w' ⟨rfl, rfl⟩
      go_wp2_with fail
      go_quiet ((go_at_call 17; with_reducible exact Calls.quiet_of_same ((F.out _ (P.out _)).mono fun _ _ ⟨a, b⟩ => ⟨a, b.symm⟩)))
      go_wp2_with fail
      go_ret
      exact ⟨ret_int (by rw [← HE.out, R.out]), below_drewN B7.out _⟩
    have d2 : decide (ro ≤ r) = false := decide_eq_false h2
    by_cases h3 : c < 0
    · have R := Lib.hid (badT_ref (st := st) (ro := ro) (ca := ca) (x := (id, r, c, f, .slice B cl.length m, cl)) hv hn (fun h => absurd (show 0 ≤ c from h.2.1) (by omega)))
      clear hv hn
      go_enter Tryd.func34, Tryd.ntmps34
      go_wp2_with fail
      refine (V.out _).mono ?_
      rintro e w' ⟨rfl, rfl⟩
      go_wp2_with fail
      go_quiet ((go_at_call 17; with_reducible exact Calls.quiet_of_same ((F.out _ (P.out _)).mono fun _ _ ⟨a, b⟩ => ⟨a, b.symm⟩)))
      go_wp2_with fail
      go_ret
      exact ⟨ret_int (by rw [← HE.out, R.out]), below_drewN B7.out _⟩
    have d3 : decide (c < 0) = false := decide_eq_false h3
    by_cases h4 : ca ≤ c
    · have R := Lib.hid (badT_ref (st := st) (ro := ro) (ca := ca) (x := (id, r, c, f, .slice B cl.length m, cl)) hv hn (fun h => absurd (show c < ca from h.2.2) (by omega)))
      clear hv hn
      go_enter Tryd.func34, Tryd.ntmps34
      go_wp2_with fail
      refine (V.out _).mono ?_
      rintro e w' ⟨rfl, rfl⟩
      go_wp2_with fail
      go_quiet ((go_at_call 17; with_reducible exact Calls.quiet_of_same ((F.out _ (P.out _)).mono fun _ _ ⟨a, b⟩ => ⟨a, b.symm⟩)))
      go_wp2_with fail
      go_ret
      exact ⟨ret_int (by rw [← HE.out, R.out]), below_drewN B7.out _⟩
    have d4 : decide (ca ≤ c) = false := decide_eq_false h4
    have R := Lib.hid (badT_calls (st := st) (ro := ro) (ca := ca) (x := (id, r, c, f, .slice B cl.length m, cl)) hv hn (show rkT ro ca r c from ⟨⟨by omega, by omega⟩, by omega, by omega⟩))
    clear hv hn h1 h2 h3 h4
    go_enter Tryd.func34, Tryd.ntmps34
    go_wp2_with fail
    refine (V.out _).mono ?_
    rintro e w' ⟨rfl, rfl⟩
    go_wp2_with fail
    go_quiet ((go_at_call 17; with_reducible exact Calls.quiet_of_same ((F.out _ (P.out _)).mono fun _ _ ⟨a, b⟩ => ⟨a, b.symm⟩)))
    go_wp2_with fail
    have B8 : Hid (Below w.heap.size w (w7.drewN nq)) := below_drewN B7.out _
    refine (RC.out _ (L7.out.below (below_drewN (Below.refl _ _) _))).mono ?_
    rintro e w9 ⟨rfl, b9⟩
    have B9 : Hid (Below w.heap.size w w9) := B8.out.trans (b9.mono B8.out.size)
    clear b9 B8
    go_wp2_with fail
    go_ret
    exact ⟨ret_int (by rw [← HE.out, R.out]), B9.out⟩
set_option maxRecDepth 100000 in
set_option maxHeartbeats 8000000 in
theorem rtck_any (v : Value) (l : List Tp) (hl : l.length ≤ 1099511627776) (st ro ca : Int) (w : World) (h : LstTp w v l) : Calls Tryd.prog 15 #[v, .int .i64 st, .int .i64 ro, .int .i64 ca] w fun e w' => e = .returned (.tuple #[.int .i64 ((chkT st ro ca l).1), .int .i64 ((chkT st ro ca l).2)]) ∧ Below w.heap.size w w' := by
  have H := Lib.hid h
  obtain ⟨⟨A, n, rfl, -, -, -⟩, -⟩ := h
  by_cases hm : 256 < l.length
  · have R := Lib.hid (chkT_many (st := st) (ro := ro) (ca := ca) hm)
    have g : (256 : Int) < (l.length : Int) := by omega
    generalize chkT st ro ca l = q at R ⊢
    clear hm
    go_enter Tryd.func15, Tryd.ntmps15
    go_wp2_with fail
    go_ret2
    exact ⟨ret_chk (by rw [R.out]) (by rw [R.out]), Below.refl _ _⟩
  have g : decide ((256 : Int) < (l.length : Int)) = false := by rw [decide_eq_false_iff_not]; omega
  have ST := Lib.hid (chkT_start (st := st) (ro := ro) (ca := ca) (l := l) (by omega))
  obtain ⟨q, hq⟩ : ∃ q, chkT st ro ca l = q := ⟨_, rfl⟩
  rw [hq]
  rw [hq] at ST
  clear hm hq
  go_enter Tryd.func15, Tryd.ntmps15
  go_wp2_with fail
  go_loopw [10] (fun i wr => ∃ k : Nat, i = .int .i64 k ∧ k ≤ l.length ∧ Hid (q = fbF (badT st ro ca) idT ((l.take k).map idT) k (l.drop k)) ∧ Hid (Below w.heap.size w wr)) (fun i _ => l.length - (intOf i).toNat)
  case atStart => exact ⟨0, rfl, Nat.zero_le _, ST, Lib.hid (Below.refl _ _)⟩
  case round =>
    clear g ST
    obtain ⟨k, rfl, hk, hz, HB⟩ := hrel
    by_cases hlt : k < l.length
    · obtain ⟨x, hx⟩ := at_lt hlt
      have gk : (k : Int) < (l.length : Int) := by omega
      have C := Lib.hid (rone_any _ l hl k x hx st ro ca wr (H.out.below HB.out))
      by_cases he : badT st ro ca ((l.take k).map idT) x = 0
      · have N := Lib.hid (fb_next hz.out hx he)
        rw [he] at C
        clear hx hz he
        go_wp2_with fail
        refine C.out.mono ?_
        rintro e w8 ⟨rfl, b8⟩
        have B8 : Hid (Below w.heap.size w w8) := HB.out.trans (b8.mono HB.out.size)
        clear b8 C HB
        go_wp2_with fail
        go_roundw
        case rel => exact ⟨k + 1, by go_num, by omega, N, B8⟩
        case measure => simp [intOf]; omega
      · have R := Lib.hid (fb_stop hz.out hx rfl he)
        have ne := bne_true he
        generalize badT st ro ca ((l.take k).map idT) x = y at C R ne
        clear hx hz he
        go_wp2_with fail
        refine C.out.mono ?_
        rintro e w8 ⟨rfl, b8⟩
        have B8 : Hid (Below w.heap.size w w8) := HB.out.trans (b8.mono HB.out.size)
        clear b8 C HB
        go_wp2_with fail
        go_ret2
        exact ⟨ret_chk (by rw [R.out]) (by rw [R.out]), B8.out⟩
    · have R := Lib.hid (fb_done hz.out (by omega))
      have d : decide (k < l.length) = false := by rw [decide_eq_false_iff_not]; exact hlt
      clear hz hlt
      go_wp2_with fail
      go_ret2
      exact ⟨ret_chk (by rw [R.out]) (by rw [R.out]), HB.out⟩
end Go.Proofs.YtfbobfejnbhjbaaDoor
