/-
  Find of trips, the code's and the reference's; the code's Between; the reference's Group: what each call answers; nothing that existed before the call has changed behind it. Condition: lists of fewer than 2^40 trips.
-/
import Derived.Test.YtfbobfejnbhjbaaDoorTrGs
import Derived.Test.YtfbobfejnbhjbaaDoorTrCon
import Derived.Test.YtfbobfejnbhjbaaDoorTrSam
namespace Go.Proofs.YtfbobfejnbhjbaaDoor
open Go.RowKit

set_option maxRecDepth 100000 in
set_option maxHeartbeats 4000000 in
theorem kfind_any (v : Value) (l : List Tp) (hl : l.length ≤ 1099511627776) (id : List UInt8) (t : ByteArray) (ht : str id = t) (w : World) (h : LstTp w v l) : Calls Tryd.prog 16 #[v, .string t] w fun e w' => e = .returned (.tuple #[.int .i64 (max (fdT (isT id) l) 0), .bool (decide (0 ≤ fdT (isT id) l))]) ∧ Below w.heap.size w w' := by
  have H := Lib.hid h
  have HT := Lib.hid ht
  clear ht
  obtain ⟨⟨A, n, rfl, -, -, -⟩, -⟩ := h
  obtain ⟨q, hq⟩ : ∃ q, fdT (isT id) l = q := ⟨_, rfl⟩
  rw [hq]
  have HR := Lib.hid hq
  clear hq
  go_enter Tryd.func16, Tryd.ntmps16
  go_wp2_with fail
  go_loopw [10] (fun i wr => ∃ k : Nat, i = .int .i64 k ∧ k ≤ l.length ∧ Hid (q = fdF (isT id) k (l.drop k)) ∧ Hid (Below w.heap.size w wr)) (fun i _ => l.length - (intOf i).toNat)
  case atStart => exact ⟨0, rfl, Nat.zero_le _, Lib.hid (by rw [← HR.out]; rfl), Lib.hid (Below.refl _ _)⟩
  case round =>
    obtain ⟨k, rfl, hk, hz, HB⟩ := hrel
    by_cases hlt : k < l.length
    · obtain ⟨⟨ix, r, c, f, v, cl⟩, hx⟩ := at_lt hlt
      obtain ⟨nm, hnm⟩ : ∃ nm, str ix = nm := ⟨_, rfl⟩
      obtain ⟨b, o, B, m, rfl, rfl, hb, r0, r1, r2, r3, r4, -, -, -⟩ := trip_at (H.out.below HB.out) hx hnm
      obtain ⟨w7, hw7⟩ : ∃ W, wr.alloc (.cells #[.string nm, .int .i64 r, .int .i64 c, .bool f, .slice B cl.length m] 39 (0, 0)) = W := ⟨_, rfl⟩
      obtain ⟨b7, p0, p1, p2, p3, p4, s7⟩ := box_tp hw7
      have gk : (k : Int) < (l.length : Int) := by omega
      have B7 : Hid (Below w.heap.size w w7) := HB.out.trans (b7.mono HB.out.size)
      by_cases he : ix = id
      · have g := bytes_eq (a := nm) (b := t) (by rw [← hnm, ← HT.out, he])
        have R := Lib.hid (fd_hit hz.out hx (isT_yes he))
        clear hx hz HB b7 hnm hb he hlt HR HT
        go_wp2_with fail
        go_ret2
        exact ⟨ret_fnd (by rw [R.out, Int.max_eq_left (by omega)]) (by rw [R.out, decide_eq_true (by omega)]), B7.out⟩
      · have g := bytes_ne (a := nm) (b := t) (str_ne hnm HT.out he)
        have N := Lib.hid (fd_miss hz.out hx (isT_no he))
        clear hx hz HB b7 hnm hb he
        go_wp2_with fail
        go_roundw
        case rel => exact ⟨k + 1, by go_num, by omega, N, B7⟩
        case measure => simp [intOf]; omega
    · have R := Lib.hid (fd_end hz.out (by omega))
      have d : decide (k < l.length) = false := by rw [decide_eq_false_iff_not]; exact hlt
      clear hz hlt HR HT
      go_wp2_with fail
      go_ret2
      exact ⟨ret_fnd (by rw [R.out]; rfl) (by rw [R.out]; rfl), HB.out⟩
set_option maxRecDepth 100000 in
set_option maxHeartbeats 4000000 in
theorem rfind_any (v : Value) (l : List Tp) (hl : l.length ≤ 1099511627776) (id : List UInt8) (t : ByteArray) (ht : str id = t) (w : World) (h : LstTp w v l) : Calls Tryd.prog 17 #[v, .string t] w fun e w' => e = .returned (.int .i64 (fdT (isT id) l)) ∧ w = w' := by
  have H := Lib.hid h
  have HT := Lib.hid ht
  clear ht
  obtain ⟨⟨A, n, rfl, -, -, -⟩, -⟩ := h
  obtain ⟨q, hq⟩ : ∃ q, fdT (isT id) l = q := ⟨_, rfl⟩
  rw [hq]
  have HR := Lib.hid hq
  clear hq
  go_enter Tryd.func17, Tryd.ntmps17
  go_wp2_with fail
  go_loop [5] (fun i => ∃ k : Nat, i = .int .i64 k ∧ k ≤ l.length ∧ Hid (q = fdF (isT id) k (l.drop k))) (fun i => l.length - (intOf i).toNat)
  case atStart => exact ⟨0, rfl, Nat.zero_le _, Lib.hid (by rw [← HR.out]; rfl)⟩
  case round =>
    obtain ⟨k, rfl, hk, hz⟩ := hrel
    by_cases hlt : k < l.length
    · obtain ⟨⟨ix, r, c, f, v, cl⟩, hx⟩ := at_lt hlt
      obtain ⟨nm, hnm⟩ : ∃ nm, str ix = nm := ⟨_, rfl⟩
      obtain ⟨b, o, B, m, rfl, rfl, hb, r0, r1, r2, r3, r4, -, -, -⟩ := trip_at H.out hx hnm
      have gk : (k : Int) < (l.length : Int) := by omega
      by_cases he : ix = id
      · have g := bytes_eq (a := nm) (b := t) (by rw [← hnm, ← HT.out, he])
        have R := Lib.hid (fd_hit hz.out hx (isT_yes he))
        clear hx hz hnm hb he hlt HR HT r1 r2 r3 r4
        go_wp2_with fail
        go_ret
        exact ⟨ret_int R.out.symm, rfl⟩
      · have g := bytes_ne (a := nm) (b := t) (str_ne hnm HT.out he)
        have N := Lib.hid (fd_miss hz.out hx (isT_no he))
        clear hx hz hnm hb he r1 r2 r3 r4
        go_wp2_with fail
        go_round
        case rel => exact ⟨k + 1, by go_num, by omega, N⟩
        case measure => simp [intOf]; omega
    · have R := Lib.hid (fd_end hz.out (by omega))
      have d : decide (k < l.length) = false := by rw [decide_eq_false_iff_not]; exact hlt
      clear hz hlt HR HT
      go_wp2_with fail
      go_ret
      exact ⟨ret_int R.out.symm, rfl⟩
set_option maxRecDepth 100000 in
set_option maxHeartbeats 4000000 in
theorem kbtw_any (v : Value) (l : List Tp) (hl : l.length ≤ 1099511627000) (st to : Int) (w : World) (h : LstTp w v l) :
    Calls Tryd.prog 27 #[v, .int .i64 st, .int .i64 to] w fun e w' => ∃ u, e = .returned u ∧ OwnI w' w.heap.size u (ixs (cnT st to) l) ∧ Below w.heap.size w w' := by
  have H := Lib.hid h
  obtain ⟨⟨A, n, rfl, -, -, -⟩, -⟩ := h
  go_enter Tryd.func27, Tryd.ntmps27
  go_wp2_with fail
  go_loopw [7, 12] (fun o i wr => ∃ k : Nat, i = .int .i64 k ∧ k ≤ l.length ∧ Hid (OwnI wr w.heap.size o (ixs (cnT st to) (l.take k))) ∧ Hid (Below w.heap.size w wr)) (fun _ i _ => l.length - (intOf i).toNat)
  case atStart => exact ⟨0, rfl, Nat.zero_le _, Lib.hid (OwnI.nil _ _), Lib.hid (Below.refl _ _)⟩
  case round =>
    obtain ⟨k, rfl, hk, HO, HB⟩ := hrel
    by_cases hlt : k < l.length
    · obtain ⟨⟨ix, r, c, f, v, cl⟩, hx⟩ := at_lt hlt
      obtain ⟨nm, hnm⟩ : ∃ nm, str ix = nm := ⟨_, rfl⟩
      obtain ⟨b, o, B, m, rfl, rfl, hb, r0, r1, r2, r3, r4, lc, lcl, -⟩ := trip_at (H.out.below HB.out) hx hnm
      obtain ⟨w7, hw7⟩ : ∃ W, wr.alloc (.cells #[.string nm, .int .i64 r, .int .i64 c, .bool f, .slice B cl.length m] 39 (0, 0)) = W := ⟨_, rfl⟩
      obtain ⟨b7, p0, p1, p2, p3, p4, s7⟩ := box_tp hw7
      have gk : (k : Int) < (l.length : Int) := by omega
      have B7 : Hid (Below w.heap.size w w7) := HB.out.trans (b7.mono HB.out.size)
      have O7 : Hid (OwnI w7 w.heap.size u7 (ixs (cnT st to) (l.take k))) := HO.out.below b7
      have C := Lib.hid (kcon_any nm r c f (.slice B cl.length m) cl lcl st to w7 (lc.below b7))
      have hil : (ixs (cnT st to) (l.take k)).length ≤ k := Nat.le_trans (ix_le _ _) (by rw [List.length_take]; omega)
      cases hc : conT st to cl with
      | true =>
        have T := Lib.hid (ix_hit (p := cnT st to) hx hc)
        rw [hc] at C
        clear hx hnm hb lc lcl b7 HB HO hc s7
        go_wp2_with fail
        refine C.out.mono ?_
        rintro e w8 ⟨rfl, b8⟩
        have B8 : Hid (Below w.heap.size w w8) := B7.out.trans (b8.mono B7.out.size)
        have O8 : Hid (OwnI w8 w.heap.size u7 (ixs (cnT st to) (l.take k))) := O7.out.below b8
        have z8 := B8.out.size
        clear b8 B7 O7 C p0 p1 p2 p3 p4 r0 r1 r2 r3 r4 hw7
        go_wp2_with (at_builtin; refine app_int _ rfl _ _ rfl w.heap.size _ (ixs (cnT st to) (l.take k)) (k : Int) rfl (OwnI.below O8.out ((Below.refl _ _).alloc (Nat.le_refl _) _)) _ _ (heap_alloc_new _ _) rfl rfl (by simp; omega) (by omega) ?_; intro v2 w2 o2 b2; refine Hid.out ?_)
        have O2 : Hid (OwnI w2 w.heap.size v2 (ixs (cnT st to) (l.take (k + 1)))) := by
          show OwnI _ _ _ _
          rw [T.out]
          exact o2
        have B2 : Hid (Below w.heap.size w w2) := (B8.out.alloc z8 _).trans b2
        clear o2 b2 O8 B8
        refine Lib.hid ?_
        go_wp2_with fail
        go_roundw
        case rel => exact ⟨k + 1, by go_num, by omega, O2, B2⟩
        case measure => simp [intOf]; omega
      | false =>
        have T := Lib.hid (ix_miss (p := cnT st to) hx hc)
        rw [hc] at C
        clear hx hnm hb lc lcl b7 HB HO hc s7
        go_wp2_with fail
        refine C.out.mono ?_
        rintro e w8 ⟨rfl, b8⟩
        have B8 : Hid (Below w.heap.size w w8) := B7.out.trans (b8.mono B7.out.size)
        have O8 : Hid (OwnI w8 w.heap.size u7 (ixs (cnT st to) (l.take (k + 1)))) := by
          show OwnI _ _ _ _
          rw [T.out]
          exact O7.out.below b8
        clear b8 B7 O7 C p0 p1 p2 p3 p4 r0 r1 r2 r3 r4 hw7
        go_wp2_with fail
        go_roundw
        case rel => exact ⟨k + 1, by go_num, by omega, O8, B8⟩
        case measure => simp [intOf]; omega
    · have E : Hid (OwnI wr w.heap.size u7 (ixs (cnT st to) l)) := by
        have := HO.out
        rw [List.take_of_length_le (by omega)] at this
        exact this
      have d : decide (k < l.length) = false := by rw [decide_eq_false_iff_not]; exact hlt
      clear hlt HO
      go_wp2_with fail
      go_ret
      exact ⟨_, rfl, E.out, HB.out⟩
/-! ### The reference's Group -/
/-- The cells of a trip in a region that draws its order. -/
theorem trip_regrown {w : World} {A : Option Addr} {n c : Nat} {l : List Tp} (h : LstTp w (.slice A n c) l) {i : Nat} {id : List UInt8} {r k : Int} {f : Bool} {v : Value} {cl : List Cl} (hs : l[i]? = some (id, r, k, f, v, cl)) {s : ByteArray} (hst : str id = s) :
    ∃ b o, A = some ⟨b, o, none⟩ ∧ ∀ d os, (Sort.grow (redrawn w d) os).cell? ⟨b, o + i * 5, none⟩ = some (.string s) ∧ (Sort.grow (redrawn w d) os).cell? ⟨b, o + i * 5 + 1, none⟩ = some (.int .i64 r) ∧ (Sort.grow (redrawn w d) os).cell? ⟨b, o + i * 5 + 2, none⟩ = some (.int .i64 k) ∧
      (Sort.grow (redrawn w d) os).cell? ⟨b, o + i * 5 + 3, none⟩ = some (.bool f) ∧ (Sort.grow (redrawn w d) os).cell? ⟨b, o + i * 5 + 4, none⟩ = some v := by
  obtain ⟨b, o, B, m, hA, rfl, -, r0, r1, r2, r3, r4, -⟩ := trip_at h hs hst
  exact ⟨b, o, hA, fun d os => ⟨cell_regrown r0 d os, cell_regrown r1 d os, cell_regrown r2 d os, cell_regrown r3 d os, cell_regrown r4 d os⟩⟩
set_option maxRecDepth 100000 in
set_option maxHeartbeats 4000000 in
theorem rgrp_any (v : Value) (l : List Tp) (hl : l.length ≤ 1099511627000) (i : Nat) (hi : i < l.length) (w : World) (h : LstTp w v l) :
    Calls Tryd.prog 23 #[v, .int .i64 (i : Int)] w fun e w' => ∃ u, e = .returned u ∧ LstI w' u (rGrp (l.map ptT) i) ∧ Below w.heap.size w w' := by
  have H := Lib.hid h
  obtain ⟨⟨A, n, rfl, -, -, -⟩, -⟩ := h
  obtain ⟨⟨yd, yr, yc, yf, yv, yl⟩, hy⟩ := at_lt hi
  obtain ⟨ym, hym⟩ : ∃ nm, str yd = nm := ⟨_, rfl⟩
  have HY := Lib.hid hy
  have HYM := Lib.hid hym
  have KY := Lib.hid (pt_at hy)
  have gi : (i : Int) < (l.length : Int) := by omega
  clear hy hym
  go_enter Tryd.func23, Tryd.ntmps23
  go_wp2_with fail
  go_loopw [5, 6] (fun o j wr => ∃ k : Nat, j = .int .i64 k ∧ k ≤ l.length ∧ Hid (OwnI wr w.heap.size o (ixs (isK (patV yl)) ((l.map ptT).take k))) ∧ Hid (∀ (j : Nat) z, j < k → j < i → (l.map ptT)[j]? = some z → z ≠ patV yl) ∧ Hid (Below w.heap.size w wr)) (fun _ j _ => l.length - (intOf j).toNat)
  case atStart => exact ⟨0, rfl, Nat.zero_le _, Lib.hid (OwnI.nil _ _), Lib.hid (fun j z hj => absurd hj (Nat.not_lt_zero _)), Lib.hid (Below.refl _ _)⟩
  case round =>
    obtain ⟨k, rfl, hk, HO, HN, HB⟩ := hrel
    by_cases hlt : k < l.length
    · obtain ⟨⟨ix, r, c, f, v, cl⟩, hx⟩ := at_lt hlt
      obtain ⟨nm, hnm⟩ : ∃ nm, str ix = nm := ⟨_, rfl⟩
      have HW := Lib.hid (H.out.below HB.out)
      obtain ⟨b, o, hA, hG⟩ := trip_regrown HW.out hx hnm
      obtain ⟨b', o', hA', hJ⟩ := trip_regrown HW.out HY.out HYM.out
      subst hA
      cases hA'
      have G0 := fun d os => (hG d os).1
      have G1 := fun d os => (hG d os).2.1
      have G2 := fun d os => (hG d os).2.2.1
      have G3 := fun d os => (hG d os).2.2.2.1
      have G4 := fun d os => (hG d os).2.2.2.2
      have J0 := fun d os => (hJ d os).1
      have J1 := fun d os => (hJ d os).2.1
      have J2 := fun d os => (hJ d os).2.2.1
      have J3 := fun d os => (hJ d os).2.2.2.1
      have J4 := fun d os => (hJ d os).2.2.2.2
      obtain ⟨l1, l2, -⟩ := HW.out.2 _ (List.mem_iff_getElem?.2 ⟨k, hx⟩)
      obtain ⟨m1, -, -⟩ := HW.out.2 _ (List.mem_iff_getElem?.2 ⟨i, HY.out⟩)
      simp only at l1 l2 m1
      have D1 := Lib.hid (fun d os => Calls.regrown_of (w := wr) (d := d) (os := os) (rsame_any nm r c f v cl ym yr yc yf yv yl l2 _ (l1.below (below_regrown wr d os)) (m1.below (below_regrown wr d os))))
      have KX := Lib.hid (pt_at hx)
      have hil : (ixs (isK (patV yl)) ((l.map ptT).take k)).length ≤ k := Nat.le_trans (ix_le _ _) (by rw [List.length_take]; omega)
      have gk : (k : Int) < (l.length : Int) := by omega
      clear hG hJ hx hnm l1 l2 m1 HW
      by_cases he : patV cl = patV yl
      · rw [show sameP cl yl = true from decide_eq_true he] at D1
        by_cases hki : k < i
        · have R := Lib.hid (rg_old KY.out (show patV yl ∈ (l.map ptT).take i from List.mem_iff_getElem?.2 ⟨k, by rw [List.getElem?_take, if_pos hki, KX.out]; exact congrArg some he⟩))
          have gki : (k : Int) < (i : Int) := by omega
          clear he HN hki
          go_wp2_with fail
          refine wp_region_quiet_below (by kernel_rfl) (by kernel_rfl) ?_
          repeat (go_big_quiet_step (first | with_reducible exact D1.out _ _))
          refine wpQuiet_nil ?_
          intro w4 hw4
          have B4 : Hid (Below w.heap.size w w4) := by
            obtain ⟨p, rfl⟩ := hw4
            exact HB.out.trans ((below_regrown wr p.d p.os).mono HB.out.size)
          clear hw4 HB HO D1 G0 G1 G2 G3 G4 J0 J1 J2 J3 J4
          go_wp2_with fail
          go_ret
          exact ⟨_, rfl, by rw [R.out]; exact LstI.nil _, B4.out⟩
        · have T := Lib.hid (ix_hit (p := isK (patV yl)) KX.out (decide_eq_true he))
          have N : Hid (∀ (j : Nat) z, j < k + 1 → j < i → (l.map ptT)[j]? = some z → z ≠ patV yl) := fun j z h1 h2 hz => HN.out j z (by omega) h2 hz
          have gki : decide (k < i) = false := decide_eq_false hki
          clear he HN
          go_wp2_with fail
          refine wp_region_quiet_below (by kernel_rfl) (by kernel_rfl) ?_
          repeat (go_big_quiet_step (first | with_reducible exact D1.out _ _))
          refine wpQuiet_nil ?_
          intro w4 hw4
          have B4 : Hid (Below w.heap.size w w4) := by
            obtain ⟨p, rfl⟩ := hw4
            exact HB.out.trans ((below_regrown wr p.d p.os).mono HB.out.size)
          have O4 : Hid (OwnI w4 w.heap.size u5 (ixs (isK (patV yl)) ((l.map ptT).take k))) := by
            obtain ⟨p, rfl⟩ := hw4
            exact HO.out.below (below_regrown wr p.d p.os)
          have z4 := B4.out.size
          clear hw4 HB HO D1 G0 G1 G2 G3 G4 J0 J1 J2 J3 J4
          go_wp2_with (at_builtin; refine app_int _ rfl _ _ rfl w.heap.size _ (ixs (isK (patV yl)) ((l.map ptT).take k)) (k : Int) rfl (OwnI.below O4.out ((Below.refl _ _).alloc (Nat.le_refl _) _)) _ _ (heap_alloc_new _ _) rfl rfl (by simp; omega) (by omega) ?_; intro v2 w2 o2 b2; refine Hid.out ?_)
          have O2 : Hid (OwnI w2 w.heap.size v2 (ixs (isK (patV yl)) ((l.map ptT).take (k + 1)))) := by
            show OwnI _ _ _ _
            rw [T.out]
            exact o2
          have B2 : Hid (Below w.heap.size w w2) := (B4.out.alloc z4 _).trans b2
          clear o2 b2 O4 B4
          refine Lib.hid ?_
          go_wp2_with fail
          go_roundw
          case rel => exact ⟨k + 1, by go_num, by omega, O2, N, B2⟩
          case measure => simp [intOf]; omega
      · rw [show sameP cl yl = false from decide_eq_false he] at D1
        have T := Lib.hid (ix_miss (p := isK (patV yl)) KX.out (decide_eq_false he))
        have N : Hid (∀ (j : Nat) z, j < k + 1 → j < i → (l.map ptT)[j]? = some z → z ≠ patV yl) := fun j z h1 h2 hz => by
          by_cases e : j = k
          · subst e
            rw [KX.out] at hz
            cases hz
            exact he
          · exact HN.out j z (by omega) h2 hz
        clear he HN
        go_wp2_with fail
        refine wp_region_quiet_below (by kernel_rfl) (by kernel_rfl) ?_
        repeat (go_big_quiet_step (first | with_reducible exact D1.out _ _))
        refine wpQuiet_nil ?_
        intro w4 hw4
        have B4 : Hid (Below w.heap.size w w4) := by
          obtain ⟨p, rfl⟩ := hw4
          exact HB.out.trans ((below_regrown wr p.d p.os).mono HB.out.size)
        have O4 : Hid (OwnI w4 w.heap.size u5 (ixs (isK (patV yl)) ((l.map ptT).take (k + 1)))) := by
          obtain ⟨p, rfl⟩ := hw4
          show OwnI _ _ _ _
          rw [T.out]
          exact HO.out.below (below_regrown wr p.d p.os)
        clear hw4 HB HO D1 G0 G1 G2 G3 G4 J0 J1 J2 J3 J4
        go_wp2_with fail
        go_roundw
        case rel => exact ⟨k + 1, by go_num, by omega, O4, N, B4⟩
        case measure => simp [intOf]; omega
    · have E : Hid (LstI wr u5 (rGrp (l.map ptT) i)) := by
        have h1 := HO.out.lst
        rw [List.take_of_length_le (by rw [List.length_map]; omega)] at h1
        show LstI _ _ _
        rw [rg_new KY.out (fun hm => by
          obtain ⟨j, hj⟩ := List.mem_iff_getElem?.1 hm
          rw [List.getElem?_take] at hj
          split at hj
          · next hji => exact HN.out j _ (by omega) hji hj rfl
          · cases hj)]
        exact h1
      have d : decide (k < l.length) = false := by rw [decide_eq_false_iff_not]; exact hlt
      clear hlt HO HN
      go_wp2_with fail
      go_ret
      exact ⟨_, rfl, E.out, HB.out⟩
end Go.Proofs.YtfbobfejnbhjbaaDoor
