/-
  The code's isIndex and Check of tables of trips: what each call answers; nothing that existed before the call has changed behind it. Condition: lists of fewer than 2^63 trips.
-/
import Derived.Test.YtfbobfejnbhjbaaDoorTrK
import Derived.Test.YtfbobfejnbhjbaaDoorWChk
namespace Go.Proofs.YtfbobfejnbhjbaaDoor
open Go.RowKit

/-- Valid, whatever the length. -/
theorem valid_all_any (s : ByteArray) (w : World) : Calls Tryd.prog 31 #[.string s] w fun e w' => e = .returned (.bool (validB s.data.toList)) ∧ w = w' := by
  by_cases hs : s.size ≤ 1099511627776
  · exact valid_any s hs w
  have e := valid_long s (by omega)
  have he : s.toList.isEmpty = false := by rw [nil_iff, decide_eq_false_iff_not]; omega
  have g : (32 : Int) < (s.size : Int) := by omega
  clear hs
  rw [e]
  go_enter Tryd.func31, Tryd.ntmps31
  go_wp2_with fail
  go_ret
  exact ⟨rfl, rfl⟩
theorem valid_small {s : ByteArray} {id : List UInt8} (hs : str id = s) (hv : validB id = true) : s.size ≤ 32 := by
  rw [← hs, size_str]
  exact valid_le hv
theorem isx_yes (i n : Int) (h : 0 ≤ i ∧ i < n) (w : World) : Calls Tryd.prog 32 #[.int .i64 i, .int .i64 n] w fun e w' => e = .returned (.bool true) ∧ w = w' := by
  obtain ⟨h0, h1⟩ := h
  go_enter Tryd.func32, Tryd.ntmps32
  go_wp2_with fail
  go_ret
  exact ⟨rfl, rfl⟩
theorem isx_no (i n : Int) (h : ¬ (0 ≤ i ∧ i < n)) (w : World) : Calls Tryd.prog 32 #[.int .i64 i, .int .i64 n] w fun e w' => e = .returned (.bool false) ∧ w = w' := by
  by_cases h0 : 0 ≤ i
  · have d : decide (i < n) = false := decide_eq_false (fun h1 => h ⟨h0, h1⟩)
    clear h
    go_enter Tryd.func32, Tryd.ntmps32
    go_wp2_with fail
    go_ret
    exact ⟨rfl, rfl⟩
  · have d : decide (0 ≤ i) = false := decide_eq_false h0
    clear h h0
    go_enter Tryd.func32, Tryd.ntmps32
    go_wp2_with fail
    go_ret
    exact ⟨rfl, rfl⟩
set_option maxRecDepth 100000 in
set_option maxHeartbeats 8000000 in
theorem ktck_any (v : Value) (l : List Tp) (hl : l.length ≤ 9223372036854775807) (st ro ca : Int) (w : World) (h : LstTp w v l) : Calls Tryd.prog 14 #[v, .int .i64 st, .int .i64 ro, .int .i64 ca] w fun e w' => e = .returned (.tuple #[.int .i64 ((chkT st ro ca l).1), .int .i64 ((chkT st ro ca l).2)]) ∧ Below w.heap.size w w' := by
  have H := Lib.hid h
  obtain ⟨⟨A, n, rfl, -, -, -⟩, -⟩ := h
  by_cases hm : 256 < l.length
  · have R := Lib.hid (chkT_many (st := st) (ro := ro) (ca := ca) hm)
    have g : (256 : Int) < (l.length : Int) := by omega
    generalize chkT st ro ca l = q at R ⊢
    clear hm
    go_enter Tryd.func14, Tryd.ntmps14
    go_wp2_with fail
    go_ret2
    exact ⟨ret_chk (by rw [R.out]) (by rw [R.out]), Below.refl _ _⟩
  have g : decide ((256 : Int) < (l.length : Int)) = false := by rw [decide_eq_false_iff_not]; omega
  have ST := Lib.hid (chkT_start (st := st) (ro := ro) (ca := ca) (l := l) (by omega))
  have hm' : l.length ≤ 256 := by omega
  have hmm := @run_makeMap Tryd.prog
  obtain ⟨q, hq⟩ : ∃ q, chkT st ro ca l = q := ⟨_, rfl⟩
  rw [hq]
  rw [hq] at ST
  clear hm hq
  go_enter Tryd.func14, Tryd.ntmps14
  go_wp2_with fail
  go_loopw [21] (fun i wr => ∃ k : Nat, i = .int .i64 k ∧ k ≤ l.length ∧ Hid (q = fbF (badT st ro ca) idT ((l.take k).map idT) k (l.drop k)) ∧ Hid (MapB wr w.heap.size ((l.take k).map idT)) ∧ Hid (Below w.heap.size w wr)) (fun i _ => l.length - (intOf i).toNat)
  case atStart => exact ⟨0, rfl, Nat.zero_le _, ST, Lib.hid (MapB.made w), Lib.hid ((Below.refl _ _).alloc (Nat.le_refl _) _)⟩
  case round =>
    clear g ST hmm
    obtain ⟨k, rfl, hk, hz, HM, HB⟩ := hrel
    by_cases hlt : k < l.length
    · obtain ⟨⟨id, r, c, f, v, cl⟩, hx⟩ := at_lt hlt
      obtain ⟨nm, hnm⟩ : ∃ nm, str id = nm := ⟨_, rfl⟩
      obtain ⟨b, o, B, m, rfl, rfl, hb, r0, r1, r2, r3, r4, lc, lcl, -⟩ := trip_at (H.out.below HB.out) hx hnm
      obtain ⟨w7, hw7⟩ : ∃ W, wr.alloc (.cells #[.string nm, .int .i64 r, .int .i64 c, .bool f, .slice B cl.length m] 39 (0, 0)) = W := ⟨_, rfl⟩
      obtain ⟨b7, p0, p1, p2, p3, p4, s7⟩ := box_tp hw7
      have gk : (k : Int) < (l.length : Int) := by omega
      have hid : nm.data.toList = id := by rw [← hnm]
      have B7 : Hid (Below w.heap.size w w7) := HB.out.trans (b7.mono HB.out.size)
      have M7 := Lib.hid (HM.out.below b7)
      have L7 := Lib.hid (lc.below b7)
      have V := Lib.hid (fun W => valid_all_any nm W)
      rw [hid] at V
      clear b7 HM HB hb lc
      cases hv : validB id with
      | false =>
        have R := Lib.hid (fb_stop hz.out hx (badT_name (seen := (l.take k).map idT) (x := (id, r, c, f, .slice B cl.length m, cl)) hv) (by decide))
        rw [hv] at V
        clear hx hz hnm hid hv
        go_wp2_with fail
        refine (V.out _).mono ?_
        rintro e w' ⟨rfl, rfl⟩
        go_wp2_with fail
        go_ret2
        exact ⟨ret_chk (by rw [R.out]) (by rw [R.out]), B7.out⟩
      | true =>
        rw [hv] at V
        have lk := M7.out.look nm id hid (by have := valid_small hnm hv; omega)
        by_cases hd : id ∈ (l.take k).map idT
        · have R := Lib.hid (fb_stop hz.out hx (badT_twice (seen := (l.take k).map idT) (x := (id, r, c, f, .slice B cl.length m, cl)) hv hd) (by decide))
          rw [decide_eq_true hd] at lk
          clear hx hz hnm hid hv hd
          go_wp2_with fail
          refine (V.out _).mono ?_
          rintro e w' ⟨rfl, rfl⟩
          go_wp2_with fail
          go_ret2
          exact ⟨ret_chk (by rw [R.out]) (by rw [R.out]), B7.out⟩
        rw [decide_eq_false hd] at lk
        by_cases hr : 0 ≤ r ∧ r < ro
        · by_cases hc : 0 ≤ c ∧ c < ca
          · have X1 := Lib.hid (fun W => isx_yes r ro hr W)
            have X2 := Lib.hid (fun W => isx_yes c ca hc W)
            have CK := Lib.hid (kcheck_any (.slice B cl.length m) cl lcl st 0 172800 w7 L7.out)
            have BE := Lib.hid (badT_calls (st := st) (seen := (l.take k).map idT) (x := (id, r, c, f, .slice B cl.length m, cl)) hv hd ⟨hr, hc⟩)
            by_cases he : (chkC st 0 172800 cl).2 = 0
            · have N := Lib.hid (fb_next hz.out hx (BE.out.trans he))
              have T := Lib.hid (key_take (key := idT) hx)
              have hil : ((l.take k).map idT).length ≤ 256 := by rw [List.length_map, List.length_take]; omega
              have HD : Hid (nm.data.toList = id) := hid
              have hsz := valid_small hnm hv
              rw [he] at CK
              generalize (chkC st 0 172800 cl).1 = y at CK
              clear hx hz hnm hid hv hd hr hc he BE
              go_wp2_with fail
              refine (V.out _).mono ?_
              rintro e w' ⟨rfl, rfl⟩
              go_wp2_with fail
              refine (X1.out _).mono ?_
              rintro e w' ⟨rfl, rfl⟩
              go_wp2_with fail
              refine (X2.out _).mono ?_
              rintro e w' ⟨rfl, rfl⟩
              go_wp2_with fail
              refine CK.out.mono ?_
              rintro e w8 ⟨rfl, b8⟩
              have q0 := (b8.cell (p := ⟨wr.heap.size, 0, none⟩) s7).trans p0
              have B8 : Hid (Below w.heap.size w w8) := B7.out.trans (b8.mono B7.out.size)
              have M8 := Lib.hid (M7.out.below b8)
              clear b8 p0 p1 p2 p3 p4 B7 M7 CK V X1 X2 lk L7 r0 r1 r2 r3 r4 hw7
              go_wp2_with (at_mapUpdate; refine put_bool _ rfl _ _ _ rfl w.heap.size ((l.take k).map idT) rfl M8.out nm id HD.out (by omega) rfl rfl (by omega) ?_; intro w9 m9 g9; refine Hid.out ?_)
              have M : Hid (MapB w9 w.heap.size ((l.take (k + 1)).map idT)) := by
                show MapB _ _ _
                rw [T.out]
                exact m9
              have B9 : Hid (Below w.heap.size w w9) := B8.out.grown g9 B8.out.size (fun j hj => by cases hj; exact Nat.le_refl _)
              clear m9 g9 M8 B8
              refine Lib.hid ?_
              go_wp2_with fail
              go_roundw
              case rel => exact ⟨k + 1, by go_num, by omega, N, M, B9⟩
              case measure => simp [intOf]; omega
            · have R := Lib.hid (fb_stop hz.out hx BE.out he)
              have ne := bne_true he
              generalize (chkC st 0 172800 cl).1 = y at CK
              generalize (chkC st 0 172800 cl).2 = z at CK R ne
              clear hx hz hnm hid hv hd hr hc he BE
              go_wp2_with fail
              refine (V.out _).mono ?_
              rintro e w' ⟨rfl, rfl⟩
              go_wp2_with fail
              refine (X1.out _).mono ?_
              rintro e w' ⟨rfl, rfl⟩
              go_wp2_with fail
              refine (X2.out _).mono ?_
              rintro e w' ⟨rfl, rfl⟩
              go_wp2_with fail
              refine CK.out.mono ?_
              rintro e w8 ⟨rfl, b8⟩
              have B8 : Hid (Below w.heap.size w w8) := B7.out.trans (b8.mono B7.out.size)
              clear b8 B7 CK
              go_wp2_with fail
              go_ret2
              exact ⟨ret_chk (by rw [R.out]) (by rw [R.out]), B8.out⟩
          · have R := Lib.hid (fb_stop hz.out hx (badT_ref (seen := (l.take k).map idT) (x := (id, r, c, f, .slice B cl.length m, cl)) hv hd (fun h => hc h.2)) (by decide))
            have X1 := Lib.hid (fun W => isx_yes r ro hr W)
            have X2 := Lib.hid (fun W => isx_no c ca hc W)
            clear hx hz hnm hid hv hd hr hc
            go_wp2_with fail
            refine (V.out _).mono ?_
            rintro e w' ⟨rfl, rfl⟩
            go_wp2_with fail
            refine (X1.out _).mono ?_
            rintro e w' ⟨rfl, rfl⟩
            go_wp2_with fail
            refine (X2.out _).mono ?_
            rintro e w' ⟨rfl, rfl⟩
            go_wp2_with fail
            go_ret2
            exact ⟨ret_chk (by rw [R.out]) (by rw [R.out]), B7.out⟩
        · have R := Lib.hid (fb_stop hz.out hx (badT_ref (seen := (l.take k).map idT) (x := (id, r, c, f, .slice B cl.length m, cl)) hv hd (fun h => hr h.1)) (by decide))
          have X1 := Lib.hid (fun W => isx_no r ro hr W)
          clear hx hz hnm hid hv hd hr
          go_wp2_with fail
          refine (V.out _).mono ?_
          rintro e w' ⟨rfl, rfl⟩
          go_wp2_with fail
          refine (X1.out _).mono ?_
          rintro e w' ⟨rfl, rfl⟩
          go_wp2_with fail
          go_ret2
          exact ⟨ret_chk (by rw [R.out]) (by rw [R.out]), B7.out⟩
    · have R := Lib.hid (fb_done hz.out (by omega))
      have d : decide (k < l.length) = false := by rw [decide_eq_false_iff_not]; exact hlt
      clear hz hlt HM
      go_wp2_with fail
      go_ret2
      exact ⟨ret_chk (by rw [R.out]) (by rw [R.out]), HB.out⟩
end Go.Proofs.YtfbobfejnbhjbaaDoor
