/-
  Calls started at a time: fitsAll and Calls of package frequency; Starts, Calls, fits and SameCalls of its reference: what each call answers; nothing that existed before the call has changed behind it. Condition: times of 64 bits, lists of at most 1000000 calls.
-/
import Derived.Test.YtahnaidkobodaaaHzT
import Derived.StillTailTactics
namespace Go.Proofs.Ytahnaidkobodaaa
open Go.RowKit

theorem ret_vi {v : Value} {a b : Int} (h : a = b) : Ending.returned (.tuple #[v, .int .i64 a]) = .returned (.tuple #[v, .int .i64 b]) := by rw [h]
/-- An element of a slice of ints. -/
theorem int_cell {w : World} {A : Option Addr} {n c : Nat} {l : List Int} (h : LstI w (.slice A n c) l) {i : Nat} {x : Int} (hs : l[i]? = some x) : ∃ b f, A = some ⟨b, f, none⟩ ∧ b < w.heap.size ∧ w.cell? ⟨b, f + i, none⟩ = some (.int .i64 x) := by
  obtain ⟨A', c', hv, _, _, hx⟩ := h
  cases hv
  have hi := (List.getElem?_eq_some_iff.1 hs).1
  obtain ⟨b, f, rfl, hb, hcell⟩ := hx (by omega)
  exact ⟨b, f, rfl, hb, hcell i _ (ints_at l i x hs)⟩
set_option maxRecDepth 100000 in
set_option maxHeartbeats 4000000 in
theorem kall_any (v : Value) (l : List Cl) (hl : l.length ≤ 1000000) (hs : OkS l) (u : Value) (ls : List Int) (hn : ls.length ≤ 172800) (x y : Int) (hx : ls[0]? = some x) (hy : ls[ls.length - 1]? = some y) (w : World) (h : LstC w v l) (hu : LstI w u ls) : Calls Try.prog 37 #[v, u] w fun e w' => e = .returned (.bool (fitC l x && fitC l y)) ∧ Below w.heap.size w w' := by
  have h0 := (List.getElem?_eq_some_iff.1 hx).1
  obtain ⟨A, c, rfl, -, -, -⟩ := id hu
  obtain ⟨b, f, rfl, hb, m0⟩ := int_cell hu hx
  obtain ⟨b', f', e', -, m1⟩ := int_cell hu hy
  cases e'
  rw [Nat.add_zero] at m0
  have C1 := Lib.hid (kfits_any v l hl hs x w h)
  have C2 := Lib.hid (fun W (hb : Below w.heap.size w W) => kfits_any v l hl hs y W (h.below hb))
  obtain ⟨n, hN⟩ : ∃ n, ls.length = n := ⟨_, rfl⟩
  rw [hN] at m1 h0 hn ⊢
  obtain ⟨k, hk⟩ : ∃ k, n - 1 = k := ⟨_, rfl⟩
  rw [hk] at m1
  have e1 : (n : Int) - 1 = (k : Int) := by omega
  have kle : k ≤ 172800 := by omega
  have kn : (k : Int) < (n : Int) := by omega
  have gn : (0 : Int) < (n : Int) := by omega
  have HB := Lib.hid hb
  obtain ⟨A1, n1, rfl, -, -, -⟩ := h
  clear hs hu hx hy hN hk hb
  cases c1 : fitC l x with
  | false =>
    rw [c1] at C1
    clear c1
    go_enter Try.func37, Try.ntmps37
    go_wp2_with fail
    refine C1.out.mono ?_
    rintro e w1 ⟨rfl, b1⟩
    go_wp2_with fail
    go_ret
    exact ⟨rfl, b1⟩
  | true =>
    rw [c1] at C1
    clear c1
    go_enter Try.func37, Try.ntmps37
    go_wp2_with fail
    refine C1.out.mono ?_
    rintro e w1 ⟨rfl, b1⟩
    have m2 := (b1.cell (p := ⟨b, f + k, none⟩) HB.out).trans m1
    have B1 := Lib.hid b1
    have C3 := Lib.hid (C2.out w1 b1)
    clear b1 C1 C2 m0 m1
    go_wp2_with fail
    refine C3.out.mono ?_
    rintro e w2 ⟨rfl, b2⟩
    have B2 : Hid (Below w.heap.size w w2) := B1.out.trans (b2.mono B1.out.size)
    clear b2
    go_wp2_with fail
    go_ret
    exact ⟨rfl, B2.out⟩
set_option maxRecDepth 100000 in
set_option maxHeartbeats 4000000 in
theorem kcalls_any (s : ByteArray) (r c : Int) (q : Bool) (v : Value) (l : List Cl) (hl : l.length ≤ 1000000) (hs : OkS l) (st : Int) (w : World) (h : LstC w v l) :
    Calls Try.prog 21 #[.agg #[.string s, .int .i64 r, .int .i64 c, .bool q, v], .int .i64 st] w fun e w' => ∃ u, e = .returned (.tuple #[u, .int .i64 (errC l st)]) ∧ OwnC w' w.heap.size u (ansC l st) ∧ Below w.heap.size w w' := by
  obtain ⟨w7, hw7⟩ : ∃ W, w.alloc (.cells #[.string s, .int .i64 r, .int .i64 c, .bool q, v] 39 (0, 0)) = W := ⟨_, rfl⟩
  obtain ⟨b7, p0, p1, p2, p3, p4, s7⟩ := box_tp hw7
  have B7 := Lib.hid b7
  have H := Lib.hid (h.below b7)
  have C1 := Lib.hid (kfits_any v l hl hs st w7 H.out)
  have HS7 := Lib.hid s7
  obtain ⟨A, n, rfl, -, -, -⟩ := h
  clear b7 hs s7
  by_cases h0 : l.length = 0
  · have E := Lib.hid (err_none (st := st) h0)
    have An := Lib.hid (ans_nil st h0)
    have g : ((l.length : Int) == 0) = true := beq_true (by omega)
    have g' : (l.length == 0) = true := by rw [h0]; rfl
    clear h0
    go_enter Try.func21, Try.ntmps21
    go_wp2_with fail
    go_ret2
    exact ⟨_, ret_vi E.out.symm, by rw [An.out]; exact OwnG.nil _ _ _ _ _, B7.out⟩
  have g : ((l.length : Int) == 0) = false := beq_false (by omega)
  have g' : (l.length == 0) = false := by rw [beq_eq_false_iff_ne]; exact h0
  cases c1 : fitC l st with
  | false =>
    rw [c1] at C1
    have E := Lib.hid (err_no h0 c1)
    have An := Lib.hid (ans_no c1)
    clear h0 c1
    go_enter Try.func21, Try.ntmps21
    go_wp2_with fail
    refine C1.out.mono ?_
    rintro e w1 ⟨rfl, b1⟩
    have B1 : Hid (Below w.heap.size w w1) := B7.out.trans (b1.mono B7.out.size)
    clear b1 C1
    go_wp2_with fail
    go_ret2
    exact ⟨_, ret_vi E.out.symm, by rw [An.out]; exact OwnG.nil _ _ _ _ _, B1.out⟩
  | true =>
    rw [c1] at C1
    have E := Lib.hid (err_yes h0 c1)
    have An := Lib.hid ((sh_run c1).trans (ans_yes c1).symm)
    obtain ⟨⟨y, ya, yd, yo, yu⟩, hy⟩ := at_lt (l := l) (k := 0) (by omega)
    have hd : dpF l = yd := dp_at hy
    rw [hd] at An
    have HY := Lib.hid hy
    have gl : (0 : Int) < (l.length : Int) := by omega
    have gn : 0 < l.length := by omega
    clear h0 c1 hy hd
    go_enter Try.func21, Try.ntmps21
    go_wp2_with fail
    refine C1.out.mono ?_
    rintro e w1 ⟨rfl, b1⟩
    have B1 : Hid (Below w.heap.size w w1) := B7.out.trans (b1.mono B7.out.size)
    have m4 := (b1.cell (p := ⟨w.heap.size, 4, none⟩) HS7.out).trans p4
    have HL := Lib.hid (H.out.below b1)
    obtain ⟨b, f, rfl, hb, k0, k1, k2, k3, k4⟩ := five_at HL.out HY.out
    rw [Nat.zero_mul, Nat.add_zero] at k0 k1 k2 k3 k4
    have K := Lib.hid (fun W (hW : Below w1.heap.size w1 W) => kshift_any _ l hl (wrap64 (st - yd)) W (HL.out.below hW))
    clear b1 C1 p0 p1 p2 p3 p4 hb g g' HL H hw7
    go_wp2_with fail
    go_still_tail 9, (by kernel_rfl)
    change wpList _ _ _ _ _ w1.drew
    go_wp2_with fail
    refine (K.out _ (Below.refl _ _).drew).mono ?_
    rintro e w2 ⟨u, rfl, o2, b2⟩
    have B2 : Hid (Below w.heap.size w w2) := B1.out.trans (((Below.refl _ w1).drew.trans b2).mono B1.out.size)
    have O2 : Hid (OwnC w2 w.heap.size u (ansC l st)) := by
      have := OwnG.down o2 (show w.heap.size ≤ w1.drew.heap.size from B1.out.size)
      rw [An.out] at this
      exact this
    clear o2 b2 k0 k1 k2 k3 k4 m4
    go_wp2_with fail
    go_ret2
    exact ⟨_, ret_vi E.out.symm, O2.out, B2.out⟩
/-! ### The reference -/
set_option maxRecDepth 100000 in
set_option maxHeartbeats 4000000 in
theorem rsame_any (u v : Value) (a b : List Cl) (ha : a.length ≤ 1099511627776) (w : World) (h1 : LstC w u a) (h2 : LstC w v b) : Calls Try.prog 23 #[u, v] w fun e w' => e = .returned (.bool (decide (a = b))) ∧ ∃ m, w' = w.drewN m := by
  have H1 := Lib.hid h1
  have H2 := Lib.hid h2
  obtain ⟨A, c, rfl, -, -, -⟩ := h1
  obtain ⟨B, d, rfl, -, -, -⟩ := h2
  obtain ⟨r, hr⟩ : ∃ r, decide (a = b) = r := ⟨_, rfl⟩
  rw [hr]
  have HR := Lib.hid hr
  clear hr
  by_cases hl : a.length = b.length
  · have g : ((a.length : Int) != (b.length : Int)) = false := neq_false (by omega)
    have g' : (a.length != b.length) = false := by rw [hl]; simp
    have HL := Lib.hid hl
    clear hl
    go_enter Try.func23, Try.ntmps23
    go_wp2_with fail
    go_loopw [5] (fun i wr => ∃ k : Nat, i = .int .i64 k ∧ k ≤ a.length ∧ Hid (eqTo a b k) ∧ Hid (∃ n, wr = w.drewN n)) (fun i _ => a.length - (intOf i).toNat)
    case atStart => exact ⟨0, rfl, Nat.zero_le _, Lib.hid (eqTo_zero _ _), Lib.hid ⟨0, rfl⟩⟩
    case round =>
      clear g g'
      obtain ⟨k, rfl, hk, hall, hn⟩ := hrel
      by_cases hlt : k < a.length
      · obtain ⟨⟨s, t, d, o, q⟩, hx⟩ := at_lt hlt
        obtain ⟨⟨s', t', d', o', q'⟩, hy⟩ := at_lt (l := b) (k := k) (by have := HL.out; omega)
        obtain ⟨b1, f1, rfl, hb1, m0, m1, m2, m3, m4⟩ := five_at (H1.out.below (drew_below hn.out)) hx
        obtain ⟨b2, f2, rfl, hb2, n0, n1, n2, n3, n4⟩ := five_at (H2.out.below (drew_below hn.out)) hy
        have gk : (k : Int) < (a.length : Int) := by omega
        have gk2 : (k : Int) < (b.length : Int) := by have := HL.out; omega
        by_cases hxy : (s, t, d, o, q) = (s', t', d', o', q')
        · have NE := neq_cc s t d o q s' t' d' o' q' false (by rw [decide_eq_true hxy]; rfl)
          have N := Lib.hid (eqTo_next hall.out hx (hy.trans (congrArg some hxy.symm)))
          clear hx hy hxy hall hb1 hb2
          go_wp2_with fail
          go_quiet (fail)
          go_wp2_with fail
          go_roundw
          case rel => exact ⟨k + 1, by go_num, by omega, N, drew_on hn nq⟩
          case measure => simp [intOf]; omega
        · have NE := neq_cc s t d o q s' t' d' o' q' true (by rw [decide_eq_false hxy]; rfl)
          have R := Lib.hid (eqTo_not hx hy hxy)
          clear hx hy hxy hall hb1 hb2
          go_wp2_with fail
          go_quiet (fail)
          go_wp2_with fail
          go_ret
          exact ⟨ret_bool (by rw [← HR.out, R.out]), (drew_on hn nq).out⟩
      · have R := Lib.hid (eqTo_all hall.out (by omega) (by have := HL.out; omega))
        have d : decide (k < a.length) = false := by rw [decide_eq_false_iff_not]; exact hlt
        clear hall hlt
        go_wp2_with fail
        go_ret
        exact ⟨ret_bool (by rw [← HR.out, R.out]), hn.out⟩
  · have g : ((a.length : Int) != (b.length : Int)) = true := bne_true (by omega)
    have g' : (a.length != b.length) = true := by simpa using hl
    have R : Hid (r = false) := by
      show _ = _
      rw [← HR.out, eqC_len hl]
    clear hl
    go_enter Try.func23, Try.ntmps23
    go_wp2_with fail
    go_ret
    exact ⟨ret_bool R.out.symm, 0, rfl⟩
set_option maxRecDepth 100000 in
set_option maxHeartbeats 4000000 in
theorem rsts_any (t a b v : Int) (w : World) : Calls Try.prog 16 #[fqV t a b v] w fun e w' => ∃ u, e = .returned u ∧ OwnI w' w.heap.size u (stsF (t, a, b, v)) ∧ Below w.heap.size w w' := by
  obtain ⟨w7, hw7⟩ : ∃ W, w.alloc (boxF t a b v) = W := ⟨_, rfl⟩
  obtain ⟨b7, p0, p1, p2, p3, s7, c7⟩ := box_fq hw7
  have B7 := Lib.hid b7
  have C7 := Lib.hid c7
  have S7 := Lib.hid s7
  have C1 := Lib.hid (rsnd_any t a b v w7)
  clear b7 c7 s7
  cases h : sndF (t, a, b, v) with
  | false =>
    rw [h] at C1
    have E := Lib.hid (sts_no h)
    clear h
    go_enter Try.func16, Try.ntmps16
    go_wp2_with fail
    refine C1.out.mono ?_
    rintro e w1 ⟨rfl, b1⟩
    have B1 : Hid (Below w.heap.size w w1) := B7.out.trans (b1.mono B7.out.size)
    clear b1 C1
    go_wp2_with fail
    go_ret
    exact ⟨_, rfl, by rw [E.out]; exact OwnI.nil _ _, B1.out⟩
  | true =>
    rw [h] at C1
    have E := Lib.hid (sts_yes h)
    obtain ⟨h1, h2, h3, h4, h5⟩ := snd_iff.1 h
    have HH := Lib.hid h
    have LE := Lib.hid (cnt_le h)
    clear h
    go_enter Try.func16, Try.ntmps16
    go_wp2_with fail
    refine C1.out.mono ?_
    rintro e w1 ⟨rfl, b1⟩
    have B1 : Hid (Below w.heap.size w w1) := B7.out.trans (b1.mono B7.out.size)
    have C8 : Hid (w1.heap[w.heap.size]? = some (boxF t a b v)) := (b1.block _ S7.out).trans C7.out
    have S8 : Hid (w.heap.size < w1.heap.size) := Nat.lt_of_lt_of_le S7.out b1.size
    obtain ⟨q0, q1, q2, q3⟩ := row_fq C8.out
    clear b1 C1 p0 p1 p2 p3 hw7
    go_wp2_with fail
    go_loopw [3, 4] (fun o i wr => ∃ (k : Nat) (s : Int), i = .int .i64 s ∧ Hid (s = nthF (t, a, b, v) k) ∧ 0 ≤ s ∧ Hid (k ≤ cntF (t, a, b, v)) ∧ Hid (OwnI wr w1.heap.size o ((lstF (t, a, b, v)).take k)) ∧ Hid (Below w1.heap.size w1 wr)) (fun _ i _ => (172800 - intOf i).toNat)
    case atStart => exact ⟨0, a, rfl, Lib.hid (nth_zero (t, a, b, v)).symm, h1, Lib.hid (Nat.zero_le _), Lib.hid (OwnI.nil _ _), Lib.hid (Below.refl _ _)⟩
    case round =>
      clear q0 q1 q2 q3
      obtain ⟨k, s, rfl, hs, hs0, hk, HO, HB⟩ := hrel
      obtain ⟨q0, q1, q2, q3⟩ := row_fq ((HB.out.block _ S8.out).trans C8.out)
      by_cases hlt : s < b
      · have hkc : k < cntF (t, a, b, v) := (cnt_lt HH.out k).2 (by rw [← hs.out]; exact hlt)
        have N := Lib.hid (lst_next hkc)
        have N2 : Hid (s + v = nthF (t, a, b, v) (k + 1)) := by rw [nth_next, ← hs.out]; exact rfl
        have K2 : Hid (k + 1 ≤ cntF (t, a, b, v)) := hkc
        have hlen : ((lstF (t, a, b, v)).take k).length ≤ 172800 := by rw [List.length_take]; have := LE.out; omega
        rw [← hs.out] at N
        clear hkc hk hs
        generalize (lstF (t, a, b, v)).take k = acc at HO N hlen
        have hz := HB.out.size
        go_wp2_with (at_builtin; refine app_int _ rfl (.tmp 19) (.tmp 21) rfl w1.heap.size _ acc s rfl (OwnI.below HO.out ((Below.refl _ _).alloc (Nat.le_refl _) _)) _ _ (heap_alloc_new _ _) rfl rfl (by simp; omega) (by omega) ?_; intro v2 w2 o2 b2; refine Hid.out ?_)
        have O2 : Hid (OwnI w2 w1.heap.size v2 ((lstF (t, a, b, v)).take (k + 1))) := by
          show OwnI _ _ _ _
          rw [N.out]
          exact o2
        have B2 : Hid (Below w1.heap.size w1 w2) := (HB.out.alloc hz _).trans b2
        obtain ⟨z0, z1, z2, z3⟩ := row_fq ((B2.out.block _ S8.out).trans C8.out)
        clear o2 b2 HO HB N q0 q1 q2 q3
        refine Lib.hid ?_
        go_wp2_with fail
        go_roundw
        case rel => exact ⟨k + 1, s + v, by go_num, N2, by omega, K2, O2, B2⟩
        case measure => simp [intOf]; omega
      · have d : decide (s < b) = false := decide_eq_false hlt
        have hkc : k = cntF (t, a, b, v) := by
          have h6 := hk.out
          rcases Nat.lt_or_ge k (cntF (t, a, b, v)) with h7 | h7
          · exact absurd (show s < b by rw [hs.out]; exact (cnt_lt HH.out k).1 h7) hlt
          · omega
        have O := Lib.hid HO.out
        rw [hkc, lst_all, ← E.out] at O
        have O1 : Hid (OwnI wr w.heap.size u3 (stsF (t, a, b, v))) := own_down O.out B1.out.size
        have B2 : Hid (Below w.heap.size w wr) := B1.out.trans (HB.out.mono B1.out.size)
        clear hlt hkc hk hs O HO HB
        go_wp2_with fail
        go_ret
        exact ⟨_, rfl, O1.out, B2.out⟩
end Go.Proofs.Ytahnaidkobodaaa
