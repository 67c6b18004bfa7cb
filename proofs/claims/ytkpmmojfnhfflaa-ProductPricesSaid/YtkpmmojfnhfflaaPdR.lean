/-
  The reference's within, Right, Check: what each call answers; nothing that existed before the call has changed behind it. Condition: lists of fewer than 2^63 products.
-/
import Derived.Test.YtkpmmojfnhfflaaPdC
import Derived.Test.YtkpmmojfnhfflaaJId
namespace Go.Proofs.Ytkpmmojfnhfflaa
open Go.RowKit

set_option maxRecDepth 100000 in
set_option maxHeartbeats 4000000 in
theorem rin_any (n a b : Int) (w : World) : Calls Try.prog 26 #[.int .i64 n, .int .i64 a, .int .i64 b] w fun e w' => e = .returned (.bool (decide (a ≤ n ∧ n ≤ b))) ∧ w = w' := by
  by_cases h1 : a ≤ n
  · have R := Lib.hid (show decide (n ≤ b) = decide (a ≤ n ∧ n ≤ b) from decide_eq_decide.2 (by omega))
    go_enter Try.func26, Try.ntmps26
    go_wp2_with fail
    go_ret
    exact ⟨ret_bool R.out, rfl⟩
  · have g : decide (a ≤ n) = false := decide_eq_false h1
    have R := Lib.hid (show false = decide (a ≤ n ∧ n ≤ b) from (decide_eq_false (by omega)).symm)
    clear h1
    go_enter Try.func26, Try.ntmps26
    go_wp2_with fail
    go_ret
    exact ⟨ret_bool R.out, rfl⟩
set_option maxRecDepth 100000 in
set_option maxHeartbeats 4000000 in
theorem rright_any (id : List UInt8) (s : ByteArray) (p r z t m : Int) (w : World) : Calls Try.prog 22 #[pdV s p r z t m] w fun e w' => e = .returned (.bool (decide (okPd (id, p, r, z, t, m)))) ∧ Below w.heap.size w w' := by
  obtain ⟨w7, hw7⟩ : ∃ W, w.alloc (boxP s p r z t m) = W := ⟨_, rfl⟩
  obtain ⟨b7, p0, p1, p2, p3, p4, p5, -⟩ := box_pd hw7
  have B7 := Lib.hid b7
  clear b7
  have C0 := Lib.hid (fun W => rin_any p 0 1000000 W)
  have C1 := Lib.hid (fun W => rin_any r 1 8 W)
  have C2 := Lib.hid (fun W => rin_any z 1 16 W)
  have C3 := Lib.hid (fun W => rin_any t 0 86400 W)
  have C4 := Lib.hid (fun W => rin_any m 1 255 W)
  by_cases q0 : ¬ (0 ≤ p ∧ p ≤ 1000000)
  · have R := Lib.hid (show decide (okPd (id, p, r, z, t, m)) = false from decide_eq_false (fun h => q0 (by unfold okPd at h; simp only at h; omega)))
    rw [decide_eq_false q0] at C0
    clear q0 
    go_enter Try.func22, Try.ntmps22
    go_wp2_with fail
    refine (C0.out _).mono ?_
    rintro e w' ⟨rfl, rfl⟩
    go_wp2_with fail
    go_ret
    exact ⟨ret_bool R.out.symm, B7.out⟩
  have h0 := Decidable.not_not.1 q0
  clear q0
  by_cases q1 : ¬ (1 ≤ r ∧ r ≤ 8)
  · have R := Lib.hid (show decide (okPd (id, p, r, z, t, m)) = false from decide_eq_false (fun h => q1 (by unfold okPd at h; simp only at h; omega)))
    rw [decide_eq_true h0] at C0
    rw [decide_eq_false q1] at C1
    clear q1 h0
    go_enter Try.func22, Try.ntmps22
    go_wp2_with fail
    refine (C0.out _).mono ?_
    rintro e w' ⟨rfl, rfl⟩
    go_wp2_with fail
    refine (C1.out _).mono ?_
    rintro e w' ⟨rfl, rfl⟩
    go_wp2_with fail
    go_ret
    exact ⟨ret_bool R.out.symm, B7.out⟩
  have h1 := Decidable.not_not.1 q1
  clear q1
  by_cases q2 : ¬ (1 ≤ z ∧ z ≤ 16)
  · have R := Lib.hid (show decide (okPd (id, p, r, z, t, m)) = false from decide_eq_false (fun h => q2 (by unfold okPd at h; simp only at h; omega)))
    rw [decide_eq_true h0] at C0
    rw [decide_eq_true h1] at C1
    rw [decide_eq_false q2] at C2
    clear q2 h0 h1
    go_enter Try.func22, Try.ntmps22
    go_wp2_with fail
    refine (C0.out _).mono ?_
    rintro e w' ⟨rfl, rfl⟩
    go_wp2_with fail
    refine (C1.out _).mono ?_
    rintro e w' ⟨rfl, rfl⟩
    go_wp2_with fail
    refine (C2.out _).mono ?_
    rintro e w' ⟨rfl, rfl⟩
    go_wp2_with fail
    go_ret
    exact ⟨ret_bool R.out.symm, B7.out⟩
  have h2 := Decidable.not_not.1 q2
  clear q2
  by_cases q3 : ¬ (0 ≤ t ∧ t ≤ 86400)
  · have R := Lib.hid (show decide (okPd (id, p, r, z, t, m)) = false from decide_eq_false (fun h => q3 (by unfold okPd at h; simp only at h; omega)))
    rw [decide_eq_true h0] at C0
    rw [decide_eq_true h1] at C1
    rw [decide_eq_true h2] at C2
    rw [decide_eq_false q3] at C3
    clear q3 h0 h1 h2
    go_enter Try.func22, Try.ntmps22
    go_wp2_with fail
    refine (C0.out _).mono ?_
    rintro e w' ⟨rfl, rfl⟩
    go_wp2_with fail
    refine (C1.out _).mono ?_
    rintro e w' ⟨rfl, rfl⟩
    go_wp2_with fail
    refine (C2.out _).mono ?_
    rintro e w' ⟨rfl, rfl⟩
    go_wp2_with fail
    refine (C3.out _).mono ?_
    rintro e w' ⟨rfl, rfl⟩
    go_wp2_with fail
    go_ret
    exact ⟨ret_bool R.out.symm, B7.out⟩
  have h3 := Decidable.not_not.1 q3
  clear q3
  have R := Lib.hid (show decide (1 ≤ m ∧ m ≤ 255) = decide (okPd (id, p, r, z, t, m)) from decide_eq_decide.2 (by unfold okPd; simp only; omega))
  rw [decide_eq_true h0] at C0
  rw [decide_eq_true h1] at C1
  rw [decide_eq_true h2] at C2
  rw [decide_eq_true h3] at C3
  generalize decide (1 ≤ m ∧ m ≤ 255) = y at C4 R
  clear h0 h1 h2 h3
  go_enter Try.func22, Try.ntmps22
  go_wp2_with fail
  refine (C0.out _).mono ?_
  rintro e w' ⟨rfl, rfl⟩
  go_wp2_with fail
  refine (C1.out _).mono ?_
  rintro e w' ⟨rfl, rfl⟩
  go_wp2_with fail
  refine (C2.out _).mono ?_
  rintro e w' ⟨rfl, rfl⟩
  go_wp2_with fail
  refine (C3.out _).mono ?_
  rintro e w' ⟨rfl, rfl⟩
  go_wp2_with fail
  refine (C4.out _).mono ?_
  rintro e w' ⟨rfl, rfl⟩
  go_wp2_with fail
  go_ret
  exact ⟨ret_bool R.out, B7.out⟩
set_option maxRecDepth 100000 in
set_option maxHeartbeats 4000000 in
theorem rcheck_any (v : Value) (l : List Pd) (d wi c : Int) (hl : l.length ≤ 9223372036854775807) (w : World) (h : LstPd w v l) : Calls Try.prog 12 #[faV v d wi c] w fun e w' => e = .returned (.tuple #[.int .i64 ((chkPd d wi c l).1), .int .i64 ((chkPd d wi c l).2)]) ∧ Below w.heap.size w w' := by
  obtain ⟨w7, hw7⟩ : ∃ W, w.alloc (boxFa v d wi c) = W := ⟨_, rfl⟩
  obtain ⟨b7, p0, p1, p2, p3, s7, -⟩ := box_fa hw7
  have H := Lib.hid (h.below b7)
  have B7 := Lib.hid b7
  obtain ⟨A, n, rfl, -, -, -⟩ := h
  clear b7
  have C0 := Lib.hid (fun W => rin_any d 0 1000000 W)
  have C1 := Lib.hid (fun W => rin_any wi 0 86400 W)
  have C2 := Lib.hid (fun W => rin_any c 0 1000000 W)
  by_cases q0 : ¬ (0 ≤ d ∧ d ≤ 1000000)
  · have R := Lib.hid (chkPd_range (l := l) (fun h => q0 (by unfold okFa at h; omega) : ¬ okFa d wi c))
    rw [decide_eq_false q0] at C0
    generalize chkPd d wi c l = q at R ⊢
    clear q0  s7
    go_enter Try.func12, Try.ntmps12
    go_wp2_with fail
    refine (C0.out _).mono ?_
    rintro e w' ⟨rfl, rfl⟩
    go_wp2_with fail
    go_ret2
    exact ⟨ret_chk (by rw [R.out]) (by rw [R.out]), B7.out⟩
  have h0 := Decidable.not_not.1 q0
  clear q0
  by_cases q1 : ¬ (0 ≤ wi ∧ wi ≤ 86400)
  · have R := Lib.hid (chkPd_range (l := l) (fun h => q1 (by unfold okFa at h; omega) : ¬ okFa d wi c))
    rw [decide_eq_true h0] at C0
    rw [decide_eq_false q1] at C1
    generalize chkPd d wi c l = q at R ⊢
    clear q1 h0 s7
    go_enter Try.func12, Try.ntmps12
    go_wp2_with fail
    refine (C0.out _).mono ?_
    rintro e w' ⟨rfl, rfl⟩
    go_wp2_with fail
    refine (C1.out _).mono ?_
    rintro e w' ⟨rfl, rfl⟩
    go_wp2_with fail
    go_ret2
    exact ⟨ret_chk (by rw [R.out]) (by rw [R.out]), B7.out⟩
  have h1 := Decidable.not_not.1 q1
  clear q1
  by_cases q2 : ¬ (0 ≤ c ∧ c ≤ 1000000)
  · have R := Lib.hid (chkPd_range (l := l) (fun h => q2 (by unfold okFa at h; omega) : ¬ okFa d wi c))
    rw [decide_eq_true h0] at C0
    rw [decide_eq_true h1] at C1
    rw [decide_eq_false q2] at C2
    generalize chkPd d wi c l = q at R ⊢
    clear q2 h0 h1 s7
    go_enter Try.func12, Try.ntmps12
    go_wp2_with fail
    refine (C0.out _).mono ?_
    rintro e w' ⟨rfl, rfl⟩
    go_wp2_with fail
    refine (C1.out _).mono ?_
    rintro e w' ⟨rfl, rfl⟩
    go_wp2_with fail
    refine (C2.out _).mono ?_
    rintro e w' ⟨rfl, rfl⟩
    go_wp2_with fail
    go_ret2
    exact ⟨ret_chk (by rw [R.out]) (by rw [R.out]), B7.out⟩
  have h2 := Decidable.not_not.1 q2
  clear q2
  have ok : okFa d wi c := ⟨h0, h1, h2⟩
  rw [decide_eq_true h0] at C0
  rw [decide_eq_true h1] at C1
  rw [decide_eq_true h2] at C2
  clear h0 h1 h2
  by_cases h16 : 16 < l.length
  · have R := Lib.hid (chkPd_many ok h16)
    have g : (16 : Int) < (l.length : Int) := by omega
    generalize chkPd d wi c l = q at R ⊢
    clear h16 ok s7
    go_enter Try.func12, Try.ntmps12
    go_wp2_with fail
    refine (C0.out _).mono ?_
    rintro e w' ⟨rfl, rfl⟩
    go_wp2_with fail
    refine (C1.out _).mono ?_
    rintro e w' ⟨rfl, rfl⟩
    go_wp2_with fail
    refine (C2.out _).mono ?_
    rintro e w' ⟨rfl, rfl⟩
    go_wp2_with fail
    go_ret2
    exact ⟨ret_chk (by rw [R.out]) (by rw [R.out]), B7.out⟩
  have g : decide ((16 : Int) < (l.length : Int)) = false := by rw [decide_eq_false_iff_not]; omega
  have ST := Lib.hid (chkPd_start ok (show l.length ≤ 16 by omega))
  have h16' : l.length ≤ 16 := by omega
  obtain ⟨q, hq⟩ : ∃ q, chkPd d wi c l = q := ⟨_, rfl⟩
  rw [hq]
  rw [hq] at ST
  clear h16 hq ok s7
  go_enter Try.func12, Try.ntmps12
  go_wp2_with fail
  refine (C0.out _).mono ?_
  rintro e w' ⟨rfl, rfl⟩
  go_wp2_with fail
  refine (C1.out _).mono ?_
  rintro e w' ⟨rfl, rfl⟩
  go_wp2_with fail
  refine (C2.out _).mono ?_
  rintro e w' ⟨rfl, rfl⟩
  go_wp2_with fail
  go_loopw [5] (fun i wr => ∃ k : Nat, i = .int .i64 k ∧ k ≤ l.length ∧ Hid (q = fbF badPd idPd ((l.take k).map idPd) k (l.drop k)) ∧ Hid (Below w7.heap.size w7 wr)) (fun i _ => l.length - (intOf i).toNat)
  case atStart => exact ⟨0, rfl, Nat.zero_le _, ST, Lib.hid (Below.refl _ _)⟩
  case round =>
    clear g ST C0 C1 C2
    obtain ⟨k, rfl, hk, hz, HB⟩ := hrel
    by_cases hlt : k < l.length
    · obtain ⟨⟨id, p, r, z, t, m⟩, hx⟩ := at_lt hlt
      obtain ⟨nm, hnm⟩ : ∃ nm, str id = nm := ⟨_, rfl⟩
      obtain ⟨b, o, rfl, hb, r0, -⟩ := six_at (H.out.below HB.out) hx hnm
      have gk : (k : Int) < (l.length : Int) := by omega
      have hid : nm.data.toList = id := by rw [← hnm]
      have V := Lib.hid (fun W => rname_all_any nm W)
      rw [hid] at V
      cases hv : validB id with
      | false =>
        have R := Lib.hid (fb_stop hz.out hx (badPd_name (seen := (l.take k).map idPd) (x := (id, p, r, z, t, m)) hv) (by decide))
        rw [hv] at V
        clear hx hz hnm hb hid hv
        go_wp2_with fail
        refine (V.out _).mono ?_
        rintro e w' ⟨rfl, rfl⟩
        go_wp2_with fail
        go_ret2
        exact ⟨ret_chk (by rw [R.out]) (by rw [R.out]), B7.out.trans (HB.out.mono B7.out.size)⟩
      | true =>
        rw [hv] at V
        have HX := Lib.hid hx
        have HNM := Lib.hid hnm
        have HV := Lib.hid hv
        clear hx hid hv hnm hb
        go_wp2_with fail
        refine (V.out _).mono ?_
        rintro e w' ⟨rfl, rfl⟩
        clear V r0
        go_wp2_with fail
        go_loopw [6] (fun i wr => ∃ j : Nat, i = .int .i64 j ∧ j ≤ k ∧ Hid (∀ (t' : Nat) (x : Pd), t' < j → l[t']? = some x → idPd x ≠ id) ∧ Hid (Below w7.heap.size w7 wr)) (fun i _ => k - (intOf i).toNat)
        case atStart => exact ⟨0, rfl, Nat.zero_le _, Lib.hid (fun t' x ht => absurd ht (Nat.not_lt_zero _)), HB⟩
        case round =>
          clear HB
          obtain ⟨j, rfl, hj, hall, HB⟩ := hrel
          by_cases hjk : j < k
          · obtain ⟨⟨id2, a2, c2, d2, e2, f2⟩, hy⟩ := at_lt (show j < l.length by omega)
            obtain ⟨nm2, hnm2⟩ : ∃ nm, str id2 = nm := ⟨_, rfl⟩
            obtain ⟨b1, o1, e1, hb1, r0, -⟩ := six_at (H.out.below HB.out) HX.out HNM.out
            obtain ⟨b2, o2, e2, hb2, s0, -⟩ := six_at (H.out.below HB.out) hy hnm2
            cases e1
            cases e2
            have gj : (j : Int) < (l.length : Int) := by omega
            have gj2 : (j : Int) < (k : Int) := by omega
            by_cases hid : id2 = id
            · have R := Lib.hid (fb_stop hz.out HX.out (badPd_twice (seen := (l.take k).map idPd) (x := (id, p, r, z, t, m)) HV.out (keys_hit hjk hy hid)) (by decide))
              have eb := bytes_eq (show nm2 = nm by rw [← hnm2, ← HNM.out, hid])
              clear hz hy hnm2 hb1 hb2 hid hall HX HNM HV
              go_wp2_with fail
              go_quiet (fail)
              go_wp2_with fail
              go_ret2
              exact ⟨ret_chk (by rw [R.out]) (by rw [R.out]), B7.out.trans ((below_drewN HB.out nq).mono B7.out.size)⟩
            · have N : Hid (∀ (t' : Nat) (x : Pd), t' < j + 1 → l[t']? = some x → idPd x ≠ id) := by
                intro t' x ht hx
                by_cases e : t' = j
                · subst e
                  rw [hy] at hx
                  obtain rfl := Option.some.inj hx
                  exact hid
                · exact hall.out t' x (by omega) hx
              have eb := bytes_ne (str_ne hnm2 HNM.out hid)
              clear hy hnm2 hb1 hb2 hid hall
              go_wp2_with fail
              go_quiet (fail)
              have HN := Lib.hid (below_drewN HB.out nq)
              go_wp2_with fail
              go_roundw
              case rel => exact ⟨j + 1, by go_num, by omega, N, HN⟩
              case measure => simp [intOf]; omega
          · have dj : decide (j < k) = false := by rw [decide_eq_false_iff_not]; exact hjk
            have NM : id ∉ (l.take k).map idPd := keys_none fun t' x ht hx => hall.out t' x (by omega) hx
            obtain ⟨b1, o1, e1, hb1, r0, r1, r2, r3, r4, r5⟩ := six_at (H.out.below HB.out) HX.out HNM.out
            cases e1
            have RF := Lib.hid (fun hf => fb_stop hz.out HX.out (badPd_range (x := (id, p, r, z, t, m)) HV.out NM hf) (by decide))
            have RN := Lib.hid (fun hf => fb_next hz.out HX.out (badPd_none (x := (id, p, r, z, t, m)) HV.out NM hf))
            have M := Lib.hid (rright_any id nm p r z t m wr)
            clear hz hall NM hjk HX HNM HV hb1
            by_cases h1 : okPd (id, p, r, z, t, m)
            · have N := Lib.hid (RN.out h1)
              rw [decide_eq_true h1] at M
              clear RF RN h1
              go_wp2_with fail
              refine M.out.mono ?_
              rintro e w8 ⟨rfl, b8⟩
              have B8 : Hid (Below w7.heap.size w7 w8) := HB.out.trans (b8.mono HB.out.size)
              clear b8 M HB
              go_wp2_with fail
              go_roundw
              case rel => exact ⟨k + 1, by go_num, by omega, N, B8⟩
              case measure => simp [intOf]; omega
            · have R := Lib.hid (RF.out h1)
              rw [decide_eq_false h1] at M
              clear RF RN h1
              go_wp2_with fail
              refine M.out.mono ?_
              rintro e w8 ⟨rfl, b8⟩
              have B8 : Hid (Below w7.heap.size w7 w8) := HB.out.trans (b8.mono HB.out.size)
              clear b8 M HB
              go_wp2_with fail
              go_ret2
              exact ⟨ret_chk (by rw [R.out]) (by rw [R.out]), B7.out.trans (B8.out.mono B7.out.size)⟩
    · have R := Lib.hid (fb_done hz.out (by omega))
      have d : decide (k < l.length) = false := by rw [decide_eq_false_iff_not]; exact hlt
      clear hz hlt
      go_wp2_with fail
      go_ret2
      exact ⟨ret_chk (by rw [R.out]) (by rw [R.out]), B7.out.trans (HB.out.mono B7.out.size)⟩
end Go.Proofs.Ytkpmmojfnhfflaa
