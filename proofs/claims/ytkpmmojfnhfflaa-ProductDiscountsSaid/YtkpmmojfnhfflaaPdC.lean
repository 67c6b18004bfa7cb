/-
  The code's checks of prices, durations, products and fares: what each call answers; nothing that existed before the call has changed behind it. Condition: lists of fewer than 2^63 products.
-/
import Derived.Test.YtkpmmojfnhfflaaPdS
namespace Go.Proofs.Ytkpmmojfnhfflaa
open Go.RowKit

/-- Valid, whatever the length. -/
theorem valid_all_any (s : ByteArray) (w : World) : Calls Try.prog 43 #[.string s] w fun e w' => e = .returned (.bool (validB s.data.toList)) ∧ w = w' := by
  by_cases hs : s.size ≤ 1099511627776
  · exact valid_any s hs w
  have e := valid_long s (by omega)
  have he : s.toList.isEmpty = false := by rw [nil_iff, decide_eq_false_iff_not]; omega
  have g : (32 : Int) < (s.size : Int) := by omega
  clear hs
  rw [e]
  go_enter Try.func43, Try.ntmps43
  go_wp2_with fail
  go_ret
  exact ⟨rfl, rfl⟩
theorem valid_small {s : ByteArray} {id : List UInt8} (hs : str id = s) (hv : validB id = true) : s.size ≤ 32 := by
  rw [← hs, size_str]
  exact valid_le hv
theorem badPd_valid {seen : List (List UInt8)} {x : Pd} (h : badPd seen x = 0) : validB x.1 = true := by
  cases hv : validB x.1 with
  | true => rfl
  | false => rw [badPd_name hv] at h; cases h
set_option maxRecDepth 100000 in
set_option maxHeartbeats 4000000 in
theorem kft_any (n a b : Int) (w : World) : Calls Try.prog 42 #[.int .i64 n, .int .i64 a, .int .i64 b] w fun e w' => e = .returned (.bool (decide (a ≤ n ∧ n ≤ b))) ∧ w = w' := by
  by_cases h1 : a ≤ n
  · have R := Lib.hid (show decide (n ≤ b) = decide (a ≤ n ∧ n ≤ b) from decide_eq_decide.2 (by omega))
    go_enter Try.func42, Try.ntmps42
    go_wp2_with fail
    go_ret
    exact ⟨ret_bool R.out, rfl⟩
  · have g : decide (a ≤ n) = false := decide_eq_false h1
    have R := Lib.hid (show false = decide (a ≤ n ∧ n ≤ b) from (decide_eq_false (by omega)).symm)
    clear h1
    go_enter Try.func42, Try.ntmps42
    go_wp2_with fail
    go_ret
    exact ⟨ret_bool R.out, rfl⟩
theorem kprice_any (n : Int) (w : World) : Calls Try.prog 23 #[.int .i64 n] w fun e w' => e = .returned (.bool (decide (0 ≤ n ∧ n ≤ 1000000))) ∧ w = w' := by
  have M := Lib.hid (fun W => kft_any n 0 1000000 W)
  generalize decide (0 ≤ n ∧ n ≤ 1000000) = r at M ⊢
  go_enter Try.func23, Try.ntmps23
  go_wp2_with fail
  refine (M.out _).mono ?_
  rintro e w' ⟨rfl, rfl⟩
  go_wp2_with fail
  go_ret
  exact ⟨rfl, rfl⟩
theorem kdur_any (n : Int) (w : World) : Calls Try.prog 24 #[.int .i64 n] w fun e w' => e = .returned (.bool (decide (0 ≤ n ∧ n ≤ 86400))) ∧ w = w' := by
  have M := Lib.hid (fun W => kft_any n 0 86400 W)
  generalize decide (0 ≤ n ∧ n ≤ 86400) = r at M ⊢
  go_enter Try.func24, Try.ntmps24
  go_wp2_with fail
  refine (M.out _).mono ?_
  rintro e w' ⟨rfl, rfl⟩
  go_wp2_with fail
  go_ret
  exact ⟨rfl, rfl⟩
set_option maxRecDepth 100000 in
set_option maxHeartbeats 4000000 in
theorem kprod_any (id : List UInt8) (p r z t m : Int) (s : ByteArray) (hs : str id = s) (b : Nat) (ls : List (List UInt8)) (w : World) (hm : MapB w b ls) :
    Calls Try.prog 25 #[pdV s p r z t m, .map (some b)] w fun e w' => e = .returned (.int .i64 (badPd ls (id, p, r, z, t, m))) ∧ Below w.heap.size w w' := by
  have hid : s.data.toList = id := by rw [← hs]
  obtain ⟨w7, hw7⟩ : ∃ W, w.alloc (boxP s p r z t m) = W := ⟨_, rfl⟩
  obtain ⟨b7, p0, p1, p2, p3, p4, p5, -⟩ := box_pd hw7
  have V := Lib.hid (fun W => valid_all_any s W)
  rw [hid] at V
  have B7 := Lib.hid b7
  cases hv : validB id with
  | false =>
    have R := Lib.hid (badPd_name (seen := ls) (x := (id, p, r, z, t, m)) hv)
    rw [hv] at V
    clear hv b7 hm hid hs
    go_enter Try.func25, Try.ntmps25
    go_wp2_with fail
    refine (V.out _).mono ?_
    rintro e w' ⟨rfl, rfl⟩
    go_wp2_with fail
    go_ret
    exact ⟨ret_int R.out.symm, B7.out⟩
  | true =>
    have lk := (hm.below b7).look s id hid (by have := valid_small hs hv; omega)
    rw [hv] at V
    clear b7 hm hid hs
    by_cases hd : id ∈ ls
    · have R := Lib.hid (badPd_twice (x := (id, p, r, z, t, m)) hv hd)
      rw [decide_eq_true hd] at lk
      clear hv hd
      go_enter Try.func25, Try.ntmps25
      go_wp2_with fail
      refine (V.out _).mono ?_
      rintro e w' ⟨rfl, rfl⟩
      go_wp2_with fail
      go_ret
      exact ⟨ret_int R.out.symm, B7.out⟩
    · rw [decide_eq_false hd] at lk
      have C0 := Lib.hid (fun W => kprice_any p W)
      have C1 := Lib.hid (fun W => kdur_any t W)
      have C2 := Lib.hid (fun W => kft_any r 1 8 W)
      have C3 := Lib.hid (fun W => kft_any z 1 16 W)
      have C4 := Lib.hid (fun W => kft_any m 1 255 W)
      by_cases q0 : ¬ (0 ≤ p ∧ p ≤ 1000000)
      · have R := Lib.hid (badPd_range (x := (id, p, r, z, t, m)) hv hd (fun h => q0 (by unfold okPd at h; simp only at h; omega)))
        rw [decide_eq_false q0] at C0
        clear hv hd q0 
        go_enter Try.func25, Try.ntmps25
        go_wp2_with fail
        refine (V.out _).mono ?_
        rintro e w' ⟨rfl, rfl⟩
        go_wp2_with fail
        refine (C0.out _).mono ?_
        rintro e w' ⟨rfl, rfl⟩
        go_wp2_with fail
        go_ret
        exact ⟨ret_int R.out.symm, B7.out⟩
      have h0 := Decidable.not_not.1 q0
      clear q0
      by_cases q1 : ¬ (0 ≤ t ∧ t ≤ 86400)
      · have R := Lib.hid (badPd_range (x := (id, p, r, z, t, m)) hv hd (fun h => q1 (by unfold okPd at h; simp only at h; omega)))
        rw [decide_eq_true h0] at C0
        rw [decide_eq_false q1] at C1
        clear hv hd q1 h0
        go_enter Try.func25, Try.ntmps25
        go_wp2_with fail
        refine (V.out _).mono ?_
        rintro e w' ⟨rfl, rfl⟩
        go_wp2_with fail
        refine (C0.out _).mono ?_
        rintro e w' ⟨rfl, rfl⟩
        go_wp2_with fail
        refine (C1.out _).mono ?_
        rintro e w' ⟨rfl, rfl⟩
        go_wp2_with fail
        go_ret
        exact ⟨ret_int R.out.symm, B7.out⟩
      have h1 := Decidable.not_not.1 q1
      clear q1
      by_cases q2 : ¬ (1 ≤ r ∧ r ≤ 8)
      · have R := Lib.hid (badPd_range (x := (id, p, r, z, t, m)) hv hd (fun h => q2 (by unfold okPd at h; simp only at h; omega)))
        rw [decide_eq_true h0] at C0
        rw [decide_eq_true h1] at C1
        rw [decide_eq_false q2] at C2
        clear hv hd q2 h0 h1
        go_enter Try.func25, Try.ntmps25
        go_wp2_with fail
        refine (V.out _).mono ?_
        rintro e w' ⟨rfl, rfl⟩
        go_wp2_with fail
        refine (C0.out _).mono ?_
        rintro e w' ⟨rfl, rfl⟩
        go_wp2_with fail
        refine (C1.out _).mono ?_
        rintro e w' ⟨rfl, rfl⟩
        go_wp2_with fail
        refine (C2.out _).mono ?_
        rintro e w' ⟨rfl, rfl⟩
        go_wp2_with fail
        go_ret
        exact ⟨ret_int R.out.symm, B7.out⟩
      have h2 := Decidable.not_not.1 q2
      clear q2
      by_cases q3 : ¬ (1 ≤ z ∧ z ≤ 16)
      · have R := Lib.hid (badPd_range (x := (id, p, r, z, t, m)) hv hd (fun h => q3 (by unfold okPd at h; simp only at h; omega)))
        rw [decide_eq_true h0] at C0
        rw [decide_eq_true h1] at C1
        rw [decide_eq_true h2] at C2
        rw [decide_eq_false q3] at C3
        clear hv hd q3 h0 h1 h2
        go_enter Try.func25, Try.ntmps25
        go_wp2_with fail
        refine (V.out _).mono ?_
        rintro e w' ⟨rfl, rfl⟩
        go_wp2_with fail
        refine (C0.out _).mono ?_
        rintro e w' ⟨rfl, rfl⟩
        go_wp2_with fail
        refine (C1.out _).mono ?_
        rintro e w' ⟨rfl, rfl⟩
        go_wp2_with fail
        refine (C2.out _).mono ?_
        rintro e w' ⟨rfl, rfl⟩
        go_wp2_with fail
        refine (C3.out _).mono ?_
        rintro e w' ⟨rfl, rfl⟩
        go_wp2_with fail
        go_ret
        exact ⟨ret_int R.out.symm, B7.out⟩
      have h3 := Decidable.not_not.1 q3
      clear q3
      by_cases q4 : ¬ (1 ≤ m ∧ m ≤ 255)
      · have R := Lib.hid (badPd_range (x := (id, p, r, z, t, m)) hv hd (fun h => q4 (by unfold okPd at h; simp only at h; omega)))
        rw [decide_eq_true h0] at C0
        rw [decide_eq_true h1] at C1
        rw [decide_eq_true h2] at C2
        rw [decide_eq_true h3] at C3
        rw [decide_eq_false q4] at C4
        clear hv hd q4 h0 h1 h2 h3
        go_enter Try.func25, Try.ntmps25
        go_wp2_with fail
        refine (V.out _).mono ?_
        rintro e w' ⟨rfl, rfl⟩
        go_wp2_with fail
        refine (C0.out _).mono ?_
        rintro e w' ⟨rfl, rfl⟩
        go_wp2_with fail
        refine (C1.out _).mono ?_
        rintro e w' ⟨rfl, rfl⟩
        go_wp2_with fail
        refine (C2.out _).mono ?_
        rintro e w' ⟨rfl, rfl⟩
        go_wp2_with fail
        refine (C3.out _).mono ?_
        rintro e w' ⟨rfl, rfl⟩
        go_wp2_with fail
        refine (C4.out _).mono ?_
        rintro e w' ⟨rfl, rfl⟩
        go_wp2_with fail
        go_ret
        exact ⟨ret_int R.out.symm, B7.out⟩
      have h4 := Decidable.not_not.1 q4
      clear q4
      have R := Lib.hid (badPd_none (x := (id, p, r, z, t, m)) hv hd (show okPd (id, p, r, z, t, m) from ⟨h0, h2, h3, h1, h4⟩))
      rw [decide_eq_true h0] at C0
      rw [decide_eq_true h1] at C1
      rw [decide_eq_true h2] at C2
      rw [decide_eq_true h3] at C3
      rw [decide_eq_true h4] at C4
      clear hv hd h0 h1 h2 h3 h4
      go_enter Try.func25, Try.ntmps25
      go_wp2_with fail
      refine (V.out _).mono ?_
      rintro e w' ⟨rfl, rfl⟩
      go_wp2_with fail
      refine (C0.out _).mono ?_
      rintro e w' ⟨rfl, rfl⟩
      go_wp2_with fail
      refine (C1.out _).mono ?_
      rintro e w' ⟨rfl, rfl⟩
      go_wp2_with fail
      refine (C2.out _).mono ?_
      rintro e w' ⟨rfl, rfl⟩
      go_wp2_with fail
      refine (C3.out _).mono ?_
      rintro e w' ⟨rfl, rfl⟩
      go_wp2_with fail
      refine (C4.out _).mono ?_
      rintro e w' ⟨rfl, rfl⟩
      go_wp2_with fail
      go_ret
      exact ⟨ret_int R.out.symm, B7.out⟩
set_option maxRecDepth 100000 in
set_option maxHeartbeats 4000000 in
theorem kcheck_any (v : Value) (l : List Pd) (d wi c : Int) (hl : l.length ≤ 9223372036854775807) (w : World) (h : LstPd w v l) : Calls Try.prog 11 #[faV v d wi c] w fun e w' => e = .returned (.tuple #[.int .i64 ((chkPd d wi c l).1), .int .i64 ((chkPd d wi c l).2)]) ∧ Below w.heap.size w w' := by
  obtain ⟨w7, hw7⟩ : ∃ W, w.alloc (boxFa v d wi c) = W := ⟨_, rfl⟩
  obtain ⟨b7, p0, p1, p2, p3, s7, -⟩ := box_fa hw7
  have H := Lib.hid (h.below b7)
  have B7 := Lib.hid b7
  obtain ⟨A, n, rfl, -, -, -⟩ := h
  clear b7
  have C0 := Lib.hid (fun W => kprice_any d W)
  have C1 := Lib.hid (fun W => kdur_any wi W)
  have C2 := Lib.hid (fun W => kprice_any c W)
  by_cases q0 : ¬ (0 ≤ d ∧ d ≤ 1000000)
  · have R := Lib.hid (chkPd_range (l := l) (fun h => q0 (by unfold okFa at h; omega) : ¬ okFa d wi c))
    rw [decide_eq_false q0] at C0
    generalize chkPd d wi c l = q at R ⊢
    clear q0  s7
    go_enter Try.func11, Try.ntmps11
    go_wp2_with fail
    refine (C0.out _).mono ?_
    rintro e w' ⟨rfl, rfl⟩
    go_wp2_with fail
    go_ret2
    exact ⟨ret_chk (by rw [R.out]) (by rw [R.out]), B7.out⟩
  have h0 := Decidable.not_not.1 q0
  clear q0
  by_cases q1 : ¬ (0 ≤ wi ∧ wi ≤ 86400)
  · have R := Lib.hid (chkPd_range (l := l) (fun h => q1 (by unfold okFa at h; omega) : ¬ okFa d wi c))
    rw [decide_eq_true h0] at C0
    rw [decide_eq_false q1] at C1
    generalize chkPd d wi c l = q at R ⊢
    clear q1 h0 s7
    go_enter Try.func11, Try.ntmps11
    go_wp2_with fail
    refine (C0.out _).mono ?_
    rintro e w' ⟨rfl, rfl⟩
    go_wp2_with fail
    refine (C1.out _).mono ?_
    rintro e w' ⟨rfl, rfl⟩
    go_wp2_with fail
    go_ret2
    exact ⟨ret_chk (by rw [R.out]) (by rw [R.out]), B7.out⟩
  have h1 := Decidable.not_not.1 q1
  clear q1
  by_cases q2 : ¬ (0 ≤ c ∧ c ≤ 1000000)
  · have R := Lib.hid (chkPd_range (l := l) (fun h => q2 (by unfold okFa at h; omega) : ¬ okFa d wi c))
    rw [decide_eq_true h0] at C0
    rw [decide_eq_true h1] at C1
    rw [decide_eq_false q2] at C2
    generalize chkPd d wi c l = q at R ⊢
    clear q2 h0 h1 s7
    go_enter Try.func11, Try.ntmps11
    go_wp2_with fail
    refine (C0.out _).mono ?_
    rintro e w' ⟨rfl, rfl⟩
    go_wp2_with fail
    refine (C1.out _).mono ?_
    rintro e w' ⟨rfl, rfl⟩
    go_wp2_with fail
    refine (C2.out _).mono ?_
    rintro e w' ⟨rfl, rfl⟩
    go_wp2_with fail
    go_ret2
    exact ⟨ret_chk (by rw [R.out]) (by rw [R.out]), B7.out⟩
  have h2 := Decidable.not_not.1 q2
  clear q2
  have ok : okFa d wi c := ⟨h0, h1, h2⟩
  rw [decide_eq_true h0] at C0
  rw [decide_eq_true h1] at C1
  rw [decide_eq_true h2] at C2
  clear h0 h1 h2
  by_cases h16 : 16 < l.length
  · have R := Lib.hid (chkPd_many ok h16)
    have g : (16 : Int) < (l.length : Int) := by omega
    generalize chkPd d wi c l = q at R ⊢
    clear h16 ok s7
    go_enter Try.func11, Try.ntmps11
    go_wp2_with fail
    refine (C0.out _).mono ?_
    rintro e w' ⟨rfl, rfl⟩
    go_wp2_with fail
    refine (C1.out _).mono ?_
    rintro e w' ⟨rfl, rfl⟩
    go_wp2_with fail
    refine (C2.out _).mono ?_
    rintro e w' ⟨rfl, rfl⟩
    go_wp2_with fail
    go_ret2
    exact ⟨ret_chk (by rw [R.out]) (by rw [R.out]), B7.out⟩
  have g : decide ((16 : Int) < (l.length : Int)) = false := by rw [decide_eq_false_iff_not]; omega
  have ST := Lib.hid (chkPd_start ok (show l.length ≤ 16 by omega))
  have h16' : l.length ≤ 16 := by omega
  have hmm := @run_makeMap Try.prog
  obtain ⟨q, hq⟩ : ∃ q, chkPd d wi c l = q := ⟨_, rfl⟩
  rw [hq]
  have HQ := Lib.hid hq
  have S7 := Lib.hid s7
  have pm := (((Below.refl w7.heap.size w7).alloc (Nat.le_refl _) (.map #[] 0)).cell (p := ⟨w.heap.size, 0, none⟩) s7).trans p0
  clear h16 hq ok s7
  go_enter Try.func11, Try.ntmps11
  go_wp2_with fail
  refine (C0.out _).mono ?_
  rintro e w' ⟨rfl, rfl⟩
  go_wp2_with fail
  refine (C1.out _).mono ?_
  rintro e w' ⟨rfl, rfl⟩
  go_wp2_with fail
  refine (C2.out _).mono ?_
  rintro e w' ⟨rfl, rfl⟩
  go_wp2_with fail
  go_loopw [32] (fun i wr => ∃ k : Nat, i = .int .i64 k ∧ k ≤ l.length ∧ Hid (chkPd d wi c l = fbF badPd idPd ((l.take k).map idPd) k (l.drop k)) ∧ Hid (MapB wr w7.heap.size ((l.take k).map idPd)) ∧ Hid (Below w7.heap.size w7 wr)) (fun i _ => l.length - (intOf i).toNat)
  case atStart => exact ⟨0, rfl, Nat.zero_le _, ST, Lib.hid (MapB.made w7), Lib.hid ((Below.refl _ _).alloc (Nat.le_refl _) _)⟩
  case round =>
    clear g ST hmm
    obtain ⟨k, rfl, hk, hz, HM, HB⟩ := hrel
    clear C0 C1 C2
    by_cases hlt : k < l.length
    · obtain ⟨⟨id, p, r, z, t, m⟩, hx⟩ := at_lt hlt
      obtain ⟨nm, hnm⟩ : ∃ nm, str id = nm := ⟨_, rfl⟩
      obtain ⟨b, o, rfl, hb, r0, r1, r2, r3, r4, r5⟩ := six_at (H.out.below HB.out) hx hnm
      have gk : (k : Int) < (l.length : Int) := by omega
      obtain ⟨w8, hw8⟩ : ∃ W, wr.alloc (boxP nm p r z t m) = W := ⟨_, rfl⟩
      obtain ⟨b8, x0, x1, x2, x3, x4, x5, s8⟩ := box_pd hw8
      have B8 : Hid (Below w7.heap.size w7 w8) := HB.out.trans (b8.mono HB.out.size)
      have M8 := Lib.hid (HM.out.below b8)
      have C := Lib.hid (kprod_any id p r z t m nm hnm w7.heap.size ((l.take k).map idPd) w8 M8.out)
      by_cases he : badPd ((l.take k).map idPd) (id, p, r, z, t, m) = 0
      · have N := Lib.hid (fb_next hz.out hx he)
        have T := Lib.hid (key_take (key := idPd) hx)
        have hil : ((l.take k).map idPd).length ≤ 16 := by rw [List.length_map, List.length_take]; omega
        have hid : Hid (nm.data.toList = id) := by show _ = _; rw [← hnm]
        have hsz := valid_small hnm (badPd_valid he)
        rw [he] at C
        simp only [idPd] at T
        clear hx hz HB HM b8 hnm hb he
        go_wp2_with fail
        refine C.out.mono ?_
        rintro e w9 ⟨rfl, b9⟩
        have q0 := (b9.cell (p := ⟨wr.heap.size, 0, none⟩) s8).trans x0
        have B9 : Hid (Below w7.heap.size w7 w9) := B8.out.trans (b9.mono B8.out.size)
        have M9 := Lib.hid (M8.out.below b9)
        clear b9 x0 x1 x2 x3 x4 x5 B8 M8 C
        go_wp2_with (at_mapUpdate; refine put_bool _ rfl _ _ _ rfl w7.heap.size ((l.take k).map idPd) rfl M9.out nm id hid.out (by omega) rfl rfl (by omega) ?_; intro w10 m10 g10)
        have M : Hid (MapB w10 w7.heap.size ((l.take (k + 1)).map idPd)) := by
          show MapB _ _ _
          rw [T.out]
          exact m10
        have B : Hid (Below w7.heap.size w7 w10) := B9.out.grown g10 B9.out.size (fun j hj => by cases hj; exact Nat.le_refl _)
        clear m10 g10 M9 B9
        go_wp2_with fail
        go_roundw
        case rel => exact ⟨k + 1, by go_num, by omega, N, M, B⟩
        case measure => simp [intOf]; omega
      · have R := Lib.hid (fb_stop hz.out hx rfl he)
        have ne := bne_true he
        generalize badPd ((l.take k).map idPd) (id, p, r, z, t, m) = y at C R ne
        clear hx hz HB HM b8 hnm hb he
        go_wp2_with fail
        refine C.out.mono ?_
        rintro e w9 ⟨rfl, b9⟩
        have B9 : Hid (Below w7.heap.size w7 w9) := B8.out.trans (b9.mono B8.out.size)
        clear b9 B8 C x0 x1 x2 x3 x4 x5
        go_wp2_with fail
        go_ret2
        exact ⟨ret_chk (by rw [← HQ.out, R.out]) (by rw [← HQ.out, R.out]), B7.out.trans (B9.out.mono B7.out.size)⟩
    · have R := Lib.hid (fb_done hz.out (by omega))
      have d : decide (k < l.length) = false := by rw [decide_eq_false_iff_not]; exact hlt
      clear hz hlt HM
      go_wp2_with fail
      go_ret2
      exact ⟨ret_chk (by rw [← HQ.out, R.out]) (by rw [← HQ.out, R.out]), B7.out.trans (HB.out.mono B7.out.size)⟩
theorem kvalid_any (v : Value) (l : List Pd) (d wi c : Int) (hl : l.length ≤ 9223372036854775807) (w : World) (h : LstPd w v l) : Calls Try.prog 40 #[faV v d wi c] w fun e w' => e = .returned (.bool (decide ((chkPd d wi c l).2 = 0))) ∧ Below w.heap.size w w' := by
  obtain ⟨w7, hw7⟩ : ∃ W, w.alloc (boxFa v d wi c) = W := ⟨_, rfl⟩
  obtain ⟨b7, p0, p1, p2, p3, s7, -⟩ := box_fa hw7
  have B7 := Lib.hid b7
  have C := Lib.hid (kcheck_any v l d wi c hl w7 (h.below b7))
  obtain ⟨A, n, rfl, -, -, -⟩ := h
  clear b7 s7
  generalize chkPd d wi c l = q at C ⊢
  obtain ⟨a, b⟩ := q
  go_enter Try.func40, Try.ntmps40
  go_wp2_with fail
  refine C.out.mono ?_
  rintro e w8 ⟨rfl, b8⟩
  have B8 : Hid (Below w.heap.size w w8) := B7.out.trans (b8.mono B7.out.size)
  clear b8 B7 C
  go_wp2_with fail
  go_ret
  exact ⟨ret_bool (by rw [Bool.eq_iff_iff]; simp), B8.out⟩
end Go.Proofs.Ytkpmmojfnhfflaa
