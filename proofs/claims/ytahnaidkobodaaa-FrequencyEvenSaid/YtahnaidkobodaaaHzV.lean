/-
  Calls and fits of the reference of package frequency: what each call answers; nothing that existed before the call has changed behind it. Condition: times of 64 bits, lists of at most 1000000 calls, a sound frequency.
-/
import Derived.Test.YtahnaidkobodaaaHzU
namespace Go.Proofs.Ytahnaidkobodaaa
open Go.RowKit

/-- Whether Shift answers that a time fits. -/
def okS (d st t : Int) : Bool := decide (0 ≤ st ∧ st ≤ 172800) && inT d st t
theorem okS_is {d st t : Int} (h : okS d st t = true) : (0 ≤ st ∧ st ≤ 172800) ∧ inT d st t = true := by
  unfold okS at h
  rw [Bool.and_eq_true, decide_eq_true_iff] at h
  exact h
theorem rshift_is (t d st : Int) (ht : -9223372036854775808 ≤ t ∧ t ≤ 9223372036854775807) (hd : -9223372036854775808 ≤ d ∧ d ≤ 9223372036854775807) (w : World) : Calls Try.prog 35 #[.int .i64 t, .int .i64 st, .int .i64 d] w fun e w' => ∃ n : Int, e = .returned (.tuple #[.int .i64 n, .bool (okS d st t)]) ∧ (okS d st t = true → n = t - d + st) ∧ w = w' := by
  by_cases h : (0 ≤ st ∧ st ≤ 172800) ∧ 0 ≤ t - d + st ∧ t - d + st ≤ 172800
  · refine (rshf_yes t d st h.1 h.2 ht hd w).mono ?_
    rintro e w' ⟨rfl, rfl⟩
    have : okS d st t = true := by unfold okS; rw [decide_eq_true h.1, inT_iff.2 h.2]; rfl
    exact ⟨_, by rw [this], fun _ => rfl, rfl⟩
  · refine (rshf_no t d st h ht hd w).mono ?_
    rintro e w' ⟨⟨n, rfl⟩, rfl⟩
    have : okS d st t = false := by
      unfold okS inT
      rw [Bool.eq_false_iff, Ne, Bool.and_eq_true, decide_eq_true_iff, decide_eq_true_iff]
      exact h
    exact ⟨n, by rw [this], fun hh => (by rw [this] at hh; cases hh), rfl⟩
theorem fit_stopS {l : List Cl} {st : Int} {k : Nat} {x : Cl} (h : l[k]? = some x) (hx : okS (dpF l) st x.2.1 = false ∨ okS (dpF l) st x.2.2.1 = false) : fitC l st = false := by
  by_cases hr : 0 ≤ st ∧ st ≤ 172800
  · refine fit_stop h ?_
    unfold okS at hx
    rw [decide_eq_true hr, Bool.true_and, Bool.true_and] at hx
    rcases hx with hx | hx
    · exact fitX_arr hx
    · exact fitX_dep hx
  · exact fit_out hr
theorem fit_doneS {l : List Cl} {st : Int} (h0 : l.length ≠ 0) (hx : ∀ (j : Nat) x, l[j]? = some x → okS (dpF l) st x.2.1 = true ∧ okS (dpF l) st x.2.2.1 = true) : fitC l st = true := by
  obtain ⟨x, h⟩ := at_lt (l := l) (k := 0) (by omega)
  exact fit_done (okS_is (hx 0 x h).1).1 fun j y hy => fitX_yes (okS_is (hx j y hy).1).2 (okS_is (hx j y hy).2).2
set_option maxRecDepth 100000 in
set_option maxHeartbeats 4000000 in
theorem rcalls_any (s : ByteArray) (r c : Int) (q : Bool) (v : Value) (l : List Cl) (hl : l.length ≤ 1000000) (hs : OkS l) (st : Int) (w : World) (h : LstC w v l) :
    Calls Try.prog 22 #[.agg #[.string s, .int .i64 r, .int .i64 c, .bool q, v], .int .i64 st] w fun e w' => ∃ u, e = .returned (.tuple #[u, .int .i64 (errC l st)]) ∧ OwnC w' w.heap.size u (ansC l st) ∧ Below w.heap.size w w' := by
  obtain ⟨w7, hw7⟩ : ∃ W, w.alloc (.cells #[.string s, .int .i64 r, .int .i64 c, .bool q, v] 39 (0, 0)) = W := ⟨_, rfl⟩
  obtain ⟨b7, p0, p1, p2, p3, p4, s7⟩ := box_tp hw7
  have B7 := Lib.hid b7
  have H := Lib.hid (h.below b7)
  have HS7 := Lib.hid s7
  have HS := Lib.hid hs
  obtain ⟨A, n, rfl, -, -, -⟩ := h
  clear b7 hs s7
  by_cases h0 : l.length = 0
  · have E := Lib.hid (err_none (st := st) h0)
    have An := Lib.hid (ans_nil st h0)
    have g : ((l.length : Int) == 0) = true := beq_true (by omega)
    have g' : (l.length == 0) = true := by rw [h0]; rfl
    clear h0
    go_enter Try.func22, Try.ntmps22
    go_wp2_with fail
    go_ret2
    exact ⟨_, ret_vi E.out.symm, by rw [An.out]; exact OwnG.nil _ _ _ _ _, B7.out⟩
  have g : ((l.length : Int) == 0) = false := beq_false (by omega)
  have g' : (l.length == 0) = false := by rw [beq_eq_false_iff_ne]; exact h0
  obtain ⟨⟨y, ya, yd, yo, yu⟩, hy⟩ := at_lt (l := l) (k := 0) (by omega)
  have hd : dpF l = yd := dp_at hy
  obtain ⟨b, f, rfl, hb, k0, k1, k2, k3, k4⟩ := five_at H.out hy
  rw [Nat.zero_mul, Nat.add_zero] at k0 k1 k2 k3 k4
  have gl : (0 : Int) < (l.length : Int) := by omega
  have gn : 0 < l.length := by omega
  have H0 := Lib.hid h0
  have HD := Lib.hid hd
  have oy := Lib.hid (HS.out.all hy).2.2
  clear h0 hy hd
  go_enter Try.func22, Try.ntmps22
  go_wp2_with fail
  clear g g' k0 k1 k2 k3 k4
  go_loopw [7, 8] (fun o i wr => ∃ k : Nat, i = .int .i64 k ∧ k ≤ l.length ∧ Hid (∀ (j : Nat) x, j < k → l[j]? = some x → okS (dpF l) st x.2.1 = true ∧ okS (dpF l) st x.2.2.1 = true) ∧ Hid (OwnC wr w7.heap.size o ((l.take k).map (runX (dpF l) st))) ∧ Hid (Below w7.heap.size w7 wr)) (fun _ i _ => l.length - (intOf i).toNat)
  case atStart => exact ⟨0, rfl, Nat.zero_le _, Lib.hid (fun j x hj => absurd hj (Nat.not_lt_zero _)), Lib.hid (OwnG.nil _ _ _ _ _), Lib.hid (Below.refl _ _)⟩
  case round =>
    clear hw7
    obtain ⟨k, rfl, hk, hall, HO, HB⟩ := hrel
    have m4 := (HB.out.cell (p := ⟨w.heap.size, 4, none⟩) HS7.out).trans p4
    clear p0 p1 p2 p3
    by_cases hlt : k < l.length
    · obtain ⟨⟨x, xa, xd, xo, xu⟩, hx⟩ := at_lt hlt
      obtain ⟨b', f', e', hb', r0, r1, r2, r3, r4⟩ := five_at (H.out.below HB.out) hx
      cases e'
      have gk : (k : Int) < (l.length : Int) := by omega
      obtain ⟨w8, hw8⟩ : ∃ W, wr.alloc (.cells #[.int .i64 x, .int .i64 xa, .int .i64 xd, .bool xo, .bool xu] 46 (0, 0)) = W := ⟨_, rfl⟩
      obtain ⟨b8, q0, q1, q2, q3, q4, s8⟩ := box_cc hw8
      have ox := HS.out.all hx
      have B8 : Hid (Below w7.heap.size w7 w8) := HB.out.trans (b8.mono HB.out.size)
      have O8 : Hid (OwnC w8 w7.heap.size u7 ((l.take k).map (runX (dpF l) st))) := HO.out.below b8
      have C1 := Lib.hid (rshift_is xa yd st ox.2.1 oy.out w8)
      have C2 := Lib.hid (rshift_is xd yd st ox.2.2 oy.out w8)
      have N := Lib.hid (run_snoc (st := st) hx)
      have hlen : ((l.take k).map (runX (dpF l) st)).length ≤ 1000000 := by rw [List.length_map, List.length_take]; omega
      have MB : Hid (Below w.heap.size w w8) := B7.out.trans (B8.out.mono B7.out.size)
      have hz8 := B8.out.size
      have ST := Lib.hid (fun hh => fit_stopS (st := st) hx hh)
      have GO : Hid (okS yd st xa = true → okS yd st xd = true → ∀ (j : Nat) x, j < k + 1 → l[j]? = some x → okS (dpF l) st x.2.1 = true ∧ okS (dpF l) st x.2.2.1 = true) := by
        intro a1 a2 j z hj hz
        by_cases hjk : j < k
        · exact hall.out j z hjk hz
        · obtain rfl : j = k := by omega
          rw [hx] at hz
          obtain rfl := Option.some.inj hz
          rw [HD.out]
          exact ⟨a1, a2⟩
      rw [HD.out] at ST N O8 hlen
      have m5 := (B8.out.cell (p := ⟨w.heap.size, 4, none⟩) HS7.out).trans p4
      clear hx hb' HO HB b8 ox hall p4
      cases c1 : okS yd st xa with
      | false =>
        rw [c1] at C1
        have E := Lib.hid (err_no H0.out (ST.out (.inl c1)))
        have An := Lib.hid (ans_no (ST.out (.inl c1)))
        generalize okS yd st xd = o2 at C2
        clear c1 GO ST
        go_wp2_with fail
        refine C1.out.mono ?_
        rintro e w' ⟨n1, rfl, -, rfl⟩
        go_wp2_with fail
        refine C2.out.mono ?_
        rintro e w' ⟨n2, rfl, -, rfl⟩
        go_wp2_with fail
        go_ret2
        exact ⟨_, ret_vi E.out.symm, by rw [An.out]; exact OwnG.nil _ _ _ _ _, MB.out⟩
      | true =>
        rw [c1] at C1
        cases c2 : okS yd st xd with
        | false =>
          rw [c2] at C2
          have E := Lib.hid (err_no H0.out (ST.out (.inr c2)))
          have An := Lib.hid (ans_no (ST.out (.inr c2)))
          clear c1 c2 GO ST
          go_wp2_with fail
          refine C1.out.mono ?_
          rintro e w' ⟨n1, rfl, -, rfl⟩
          go_wp2_with fail
          refine C2.out.mono ?_
          rintro e w' ⟨n2, rfl, -, rfl⟩
          go_wp2_with fail
          go_ret2
          exact ⟨_, ret_vi E.out.symm, by rw [An.out]; exact OwnG.nil _ _ _ _ _, MB.out⟩
        | true =>
          rw [c2] at C2
          have G := Lib.hid (GO.out c1 c2)
          clear c1 c2 GO ST
          go_wp2_with fail
          refine C1.out.mono ?_
          rintro e w' ⟨n1, rfl, hn1, rfl⟩
          obtain rfl := hn1 trivial
          clear hn1
          go_wp2_with fail
          refine C2.out.mono ?_
          rintro e w' ⟨n2, rfl, hn2, rfl⟩
          obtain rfl := hn2 trivial
          clear hn2
          go_wp2_with (at_builtin; refine appG_one cc_len cc_one (by decide) Try.underlying37 info_cc rfl (by decide) _ rfl (.tmp 57) (.tmp 67) rfl w7.heap.size _ ((l.take k).map (runX yd st)) (x, xa - yd + st, xd - yd + st, xo, xu) rfl (World.ownsRow.alloc O8.out _) w8.heap.size _ (heap_alloc_new _ _) rfl rfl (by simp; omega) (by omega) ?_; intro u2 w10 own10 b10 _ _; refine Hid.out ?_)
          have B10 : Hid (Below w7.heap.size w7 w10) := (B8.out.alloc hz8 _).trans b10
          have O10 : Hid (OwnC w10 w7.heap.size u2 ((l.take (k + 1)).map (runX (dpF l) st))) := by
            show OwnC _ _ _ _
            rw [HD.out, N.out, show runX yd st (x, xa, xd, xo, xu) = (x, xa - yd + st, xd - yd + st, xo, xu) from rfl]
            exact own10
          clear own10 b10 N O8 B8 MB
          refine Lib.hid ?_
          go_wp2_with fail
          go_roundw
          case rel => exact ⟨k + 1, by go_num, by omega, G, O10, B10⟩
          case measure => simp [intOf]; omega
    · have FC := fit_doneS (st := st) H0.out (fun j x hj => hall.out j x (by have := (List.getElem?_eq_some_iff.1 hj).1; omega) hj)
      have E := Lib.hid (err_yes H0.out FC)
      have An := Lib.hid (ans_yes FC)
      have O := Lib.hid HO.out
      rw [List.take_of_length_le (by omega)] at O
      have O1 : Hid (OwnC wr w.heap.size u7 (ansC l st)) := by
        show OwnC _ _ _ _
        rw [An.out]
        exact OwnG.down O.out B7.out.size
      have B1 : Hid (Below w.heap.size w wr) := B7.out.trans (HB.out.mono B7.out.size)
      have d : decide (k < l.length) = false := by rw [decide_eq_false_iff_not]; exact hlt
      clear hall hlt O HO HB FC
      go_wp2_with fail
      go_ret2
      exact ⟨_, ret_vi E.out.symm, O1.out, B1.out⟩
end Go.Proofs.Ytahnaidkobodaaa
