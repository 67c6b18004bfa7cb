/-
  The code's checkRoute, Check, Find of tables of routes: what each call answers; nothing that existed before the call has changed behind it. Condition: lists of fewer than 2^63 routes.
-/
import Derived.Test.YtlpemdhjbpekaaaDoorJPar
namespace Go.Proofs.YtlpemdhjbpekaaaDoor
open Go.RowKit

/-- Valid, whatever the length. -/
theorem valid_all_any (s : ByteArray) (w : World) : Calls Tryd.prog 39 #[.string s] w fun e w' => e = .returned (.bool (validB s.data.toList)) ∧ w = w' := by
  by_cases hs : s.size ≤ 1099511627776
  · exact valid_any s hs w
  have e := valid_long s (by omega)
  have he : s.toList.isEmpty = false := by rw [nil_iff, decide_eq_false_iff_not]; omega
  have g : (32 : Int) < (s.size : Int) := by omega
  clear hs
  rw [e]
  go_enter Tryd.func39, Tryd.ntmps39
  go_wp2_with fail
  go_ret
  exact ⟨rfl, rfl⟩
theorem valid_small {s : ByteArray} {id : List UInt8} (hs : str id = s) (hv : validB id = true) : s.size ≤ 32 := by
  rw [← hs, size_str]
  exact valid_le hv
set_option maxRecDepth 100000 in
set_option maxHeartbeats 4000000 in
theorem kroute_any (id : List UInt8) (m : Int) (f : Bool) (s : ByteArray) (hs : str id = s) (b : Nat) (ls : List (List UInt8)) (w : World) (hm : MapB w b ls) :
    Calls Tryd.prog 28 #[.agg #[.string s, .int .i64 m, .bool f], .map (some b)] w fun e w' => e = .returned (.int .i64 (badR ls (id, m, f))) ∧ Below w.heap.size w w' := by
  have hid : s.data.toList = id := by rw [← hs]
  obtain ⟨w7, hw7⟩ : ∃ W, w.alloc (.cells #[.string s, .int .i64 m, .bool f] 50 (0, 0)) = W := ⟨_, rfl⟩
  obtain ⟨b7, p0, p1, p2, -⟩ := box_rt hw7
  have V := Lib.hid (valid_all_any s w7)
  rw [hid] at V
  have B7 := Lib.hid b7
  cases hv : validB id with
  | false =>
    have R := Lib.hid (badR_name (seen := ls) (x := (id, m, f)) hv)
    rw [hv] at V
    clear hv b7 hm hid hs
    go_enter Tryd.func28, Tryd.ntmps28
    go_wp2_with fail
    refine V.out.mono ?_
    rintro e w' ⟨rfl, rfl⟩
    go_wp2_with fail
    go_ret
    exact ⟨ret_int R.out.symm, B7.out⟩
  | true =>
    have lk := (hm.below b7).look s id hid (by have := valid_small hs hv; omega)
    rw [hv] at V
    clear b7 hm hid hs
    by_cases hd : id ∈ ls
    · have R := Lib.hid (badR_twice (x := (id, m, f)) hv hd)
      rw [decide_eq_true hd] at lk
      clear hv hd
      go_enter Tryd.func28, Tryd.ntmps28
      go_wp2_with fail
      refine V.out.mono ?_
      rintro e w' ⟨rfl, rfl⟩
      go_wp2_with fail
      go_ret
      exact ⟨ret_int R.out.symm, B7.out⟩
    · rw [decide_eq_false hd] at lk
      have E := Lib.hid (fun W => every_any m W)
      by_cases h1 : okM m
      · have R := Lib.hid (badR_none (x := (id, m, f)) hv hd h1)
        rw [decide_eq_true h1] at E
        clear hv hd h1
        go_enter Tryd.func28, Tryd.ntmps28
        go_wp2_with fail
        refine V.out.mono ?_
        rintro e w' ⟨rfl, rfl⟩
        go_wp2_with fail
        refine (E.out _).mono ?_
        rintro e w' ⟨rfl, rfl⟩
        go_wp2_with fail
        go_ret
        exact ⟨ret_int R.out.symm, B7.out⟩
      · have R := Lib.hid (badR_mode (x := (id, m, f)) hv hd h1)
        rw [decide_eq_false h1] at E
        clear hv hd h1
        go_enter Tryd.func28, Tryd.ntmps28
        go_wp2_with fail
        refine V.out.mono ?_
        rintro e w' ⟨rfl, rfl⟩
        go_wp2_with fail
        refine (E.out _).mono ?_
        rintro e w' ⟨rfl, rfl⟩
        go_wp2_with fail
        go_ret
        exact ⟨ret_int R.out.symm, B7.out⟩
set_option maxRecDepth 100000 in
set_option maxHeartbeats 4000000 in
theorem kcheck_any (v : Value) (l : List Rt) (hl : l.length ≤ 9223372036854775807) (w : World) (h : LstR w v l) : Calls Tryd.prog 9 #[v] w fun e w' => e = .returned (.tuple #[.int .i64 ((chkR l).1), .int .i64 ((chkR l).2)]) ∧ Below w.heap.size w w' := by
  have H := Lib.hid h
  obtain ⟨A, c, rfl, -, -, -⟩ := h
  by_cases h64 : 64 < l.length
  · have R := Lib.hid (chkR_many h64)
    have g : (64 : Int) < (l.length : Int) := by omega
    generalize chkR l = q at R ⊢
    clear h64
    go_enter Tryd.func9, Tryd.ntmps9
    go_wp2_with fail
    go_ret2
    exact ⟨ret_chk (by rw [R.out]) (by rw [R.out]), Below.refl _ _⟩
  have g : decide ((64 : Int) < (l.length : Int)) = false := by rw [decide_eq_false_iff_not]; omega
  have ST := Lib.hid (chkR_start (l := l) (by omega))
  have h64' : l.length ≤ 64 := by omega
  have hmm := @run_makeMap Tryd.prog
  obtain ⟨q, hq⟩ : ∃ q, chkR l = q := ⟨_, rfl⟩
  rw [hq]
  have HQ := Lib.hid hq
  clear h64 hq
  go_enter Tryd.func9, Tryd.ntmps9
  go_wp2_with fail
  go_loopw [14] (fun i wr => ∃ k : Nat, i = .int .i64 k ∧ k ≤ l.length ∧ Hid (chkR l = fbF badR idR ((l.take k).map idR) k (l.drop k)) ∧ Hid (MapB wr w.heap.size ((l.take k).map idR)) ∧ Hid (Below w.heap.size w wr)) (fun i _ => l.length - (intOf i).toNat)
  case atStart => exact ⟨0, rfl, Nat.zero_le _, ST, Lib.hid (MapB.made w), Lib.hid ((Below.refl _ _).alloc (Nat.le_refl _) _)⟩
  case round =>
    clear g ST hmm
    obtain ⟨k, rfl, hk, hz, HM, HB⟩ := hrel
    by_cases hlt : k < l.length
    · obtain ⟨⟨id, m, f⟩, hx⟩ := at_lt hlt
      obtain ⟨nm, hnm⟩ : ∃ nm, str id = nm := ⟨_, rfl⟩
      obtain ⟨b, o, rfl, hb, r0, r1, r2⟩ := three_at (H.out.below HB.out) hx hnm
      have gk : (k : Int) < (l.length : Int) := by omega
      obtain ⟨w7, hw7⟩ : ∃ W, wr.alloc (.cells #[.string nm, .int .i64 m, .bool f] 50 (0, 0)) = W := ⟨_, rfl⟩
      obtain ⟨b7, p0, p1, p2, s7⟩ := box_rt hw7
      have B7 : Hid (Below w.heap.size w w7) := HB.out.trans (b7.mono HB.out.size)
      have M7 := Lib.hid (HM.out.below b7)
      have C := Lib.hid (kroute_any id m f nm hnm w.heap.size ((l.take k).map idR) w7 M7.out)
      by_cases he : badR ((l.take k).map idR) (id, m, f) = 0
      · have N := Lib.hid (fb_next hz.out hx he)
        have T := Lib.hid (key_take (key := idR) hx)
        have hil : ((l.take k).map idR).length ≤ 64 := by rw [List.length_map, List.length_take]; omega
        have hid : Hid (nm.data.toList = id) := by show _ = _; rw [← hnm]
        have hsz := valid_small hnm (badR_valid he)
        rw [he] at C
        simp only [idR] at T
        clear hx hz HB HM b7 hnm hb he
        go_wp2_with fail
        refine C.out.mono ?_
        rintro e w8 ⟨rfl, b8⟩
        have q0 := (b8.cell (p := ⟨wr.heap.size, 0, none⟩) s7).trans p0
        have B8 : Hid (Below w.heap.size w w8) := B7.out.trans (b8.mono B7.out.size)
        have M8 := Lib.hid (M7.out.below b8)
        clear b8 p0 p1 p2 B7 M7 C
        go_wp2_with (at_mapUpdate; refine put_bool _ rfl _ _ _ rfl w.heap.size ((l.take k).map idR) rfl M8.out nm id hid.out (by omega) rfl rfl (by omega) ?_; intro w9 m9 g9)
        have M : Hid (MapB w9 w.heap.size ((l.take (k + 1)).map idR)) := by
          show MapB _ _ _
          rw [T.out]
          exact m9
        have B : Hid (Below w.heap.size w w9) := B8.out.grown g9 B8.out.size (fun j hj => by cases hj; exact Nat.le_refl _)
        clear m9 g9 M8 B8
        go_wp2_with fail
        go_roundw
        case rel => exact ⟨k + 1, by go_num, by omega, N, M, B⟩
        case measure => simp [intOf]; omega
      · have R := Lib.hid (fb_stop hz.out hx rfl he)
        have ne := bne_true he
        generalize badR ((l.take k).map idR) (id, m, f) = y at C R ne
        clear hx hz HB HM b7 hnm hb he
        go_wp2_with fail
        refine C.out.mono ?_
        rintro e w8 ⟨rfl, b8⟩
        have B8 : Hid (Below w.heap.size w w8) := B7.out.trans (b8.mono B7.out.size)
        clear b8 B7 C p0 p1 p2
        go_wp2_with fail
        go_ret2
        exact ⟨ret_chk (by rw [← HQ.out, R.out]) (by rw [← HQ.out, R.out]), B8.out⟩
    · have R := Lib.hid (fb_done hz.out (by omega))
      have d : decide (k < l.length) = false := by rw [decide_eq_false_iff_not]; exact hlt
      clear hz hlt HM
      go_wp2_with fail
      go_ret2
      exact ⟨ret_chk (by rw [← HQ.out, R.out]) (by rw [← HQ.out, R.out]), HB.out⟩
set_option maxRecDepth 100000 in
set_option maxHeartbeats 4000000 in
theorem kfind_any (v : Value) (l : List Rt) (hl : l.length ≤ 1099511627776) (id : List UInt8) (t : ByteArray) (ht : str id = t) (w : World) (h : LstR w v l) : Calls Tryd.prog 11 #[v, .string t] w fun e w' => e = .returned (.tuple #[.int .i64 (max (fdT (isR id) l) 0), .bool (decide (0 ≤ fdT (isR id) l))]) ∧ Below w.heap.size w w' := by
  have H := Lib.hid h
  have HT := Lib.hid ht
  clear ht
  obtain ⟨A, c, rfl, -, -, -⟩ := h
  obtain ⟨r, hr⟩ : ∃ r, fdT (isR id) l = r := ⟨_, rfl⟩
  rw [hr]
  have HR := Lib.hid hr
  clear hr
  go_enter Tryd.func11, Tryd.ntmps11
  go_wp2_with fail
  go_loopw [10] (fun i wr => ∃ k : Nat, i = .int .i64 k ∧ k ≤ l.length ∧ Hid (r = fdF (isR id) k (l.drop k)) ∧ Hid (Below w.heap.size w wr)) (fun i _ => l.length - (intOf i).toNat)
  case atStart => exact ⟨0, rfl, Nat.zero_le _, Lib.hid (by rw [← HR.out]; rfl), Lib.hid (Below.refl _ _)⟩
  case round =>
    obtain ⟨k, rfl, hk, hz, HB⟩ := hrel
    by_cases hlt : k < l.length
    · obtain ⟨⟨ix, m, f⟩, hx⟩ := at_lt hlt
      obtain ⟨nm, hnm⟩ : ∃ nm, str ix = nm := ⟨_, rfl⟩
      obtain ⟨b, o, rfl, hb, r0, r1, r2⟩ := three_at (H.out.below HB.out) hx hnm
      have gk : (k : Int) < (l.length : Int) := by omega
      obtain ⟨w7, hw7⟩ : ∃ W, wr.alloc (.cells #[.string nm, .int .i64 m, .bool f] 50 (0, 0)) = W := ⟨_, rfl⟩
      obtain ⟨b7, p0, p1, p2, -⟩ := box_rt hw7
      have B7 : Hid (Below w.heap.size w w7) := HB.out.trans (b7.mono HB.out.size)
      by_cases he : ix = id
      · have g := bytes_eq (a := nm) (b := t) (by rw [← hnm, ← HT.out, he])
        have R := Lib.hid (fd_hit hz.out hx (isR_yes he))
        clear hx hz HB b7 hnm hb he hlt HR HT
        go_wp2_with fail
        go_ret2
        exact ⟨ret_fnd (by rw [R.out, Int.max_eq_left (by omega)]) (by rw [R.out, decide_eq_true (by omega)]), B7.out⟩
      · have g := bytes_ne (a := nm) (b := t) (str_ne hnm HT.out he)
        have N := Lib.hid (fd_miss hz.out hx (isR_no he))
        clear hx hz HB b7 hnm hb he
        go_wp2_with fail
        go_roundw
        case rel => exact ⟨k + 1, by go_num, by omega, N, B7⟩
        case measure => simp [intOf]; omega
    · have R := Lib.hid (fd_end hz.out (by omega))
      have d : decide (k < l.length) = false := by rw [decide_eq_false_iff_not]; exact hlt
      clear hz hlt HR HT
      go_wp2_with fail
      go_ret2
      exact ⟨ret_fnd (by rw [R.out]; rfl) (by rw [R.out]; rfl), HB.out⟩
end Go.Proofs.YtlpemdhjbpekaaaDoor
