/-
  The reference's Check and Find of tables of routes: what each call answers; it only draws. Condition: lists of fewer than 2^63 routes.
-/
import Derived.Test.YtlpemdhjbpekaaaDoorJChk
import Derived.Test.YtlpemdhjbpekaaaDoorJId
namespace Go.Proofs.YtlpemdhjbpekaaaDoor
open Go.RowKit

set_option maxRecDepth 100000 in
set_option maxHeartbeats 4000000 in
theorem rcheck_any (v : Value) (l : List Rt) (hl : l.length ≤ 9223372036854775807) (w : World) (h : LstR w v l) : Calls Tryd.prog 10 #[v] w fun e w' => e = .returned (.tuple #[.int .i64 ((chkR l).1), .int .i64 ((chkR l).2)]) ∧ ∃ m, w' = w.drewN m := by
  have H := Lib.hid h
  obtain ⟨A, c, rfl, -, -, -⟩ := h
  by_cases h64 : 64 < l.length
  · have R := Lib.hid (chkR_many h64)
    have g : (64 : Int) < (l.length : Int) := by omega
    generalize chkR l = q at R ⊢
    clear h64
    go_enter Tryd.func10, Tryd.ntmps10
    go_wp2_with fail
    go_ret2
    exact ⟨ret_chk (by rw [R.out]) (by rw [R.out]), 0, rfl⟩
  have g : decide ((64 : Int) < (l.length : Int)) = false := by rw [decide_eq_false_iff_not]; omega
  have ST := Lib.hid (chkR_start (l := l) (by omega))
  have h64' : l.length ≤ 64 := by omega
  generalize chkR l = q at ST ⊢
  clear h64
  go_enter Tryd.func10, Tryd.ntmps10
  go_wp2_with fail
  go_loopw [4] (fun i wr => ∃ k : Nat, i = .int .i64 k ∧ k ≤ l.length ∧ Hid (q = fbF badR idR ((l.take k).map idR) k (l.drop k)) ∧ Hid (∃ n, wr = w.drewN n)) (fun i _ => l.length - (intOf i).toNat)
  case atStart => exact ⟨0, rfl, Nat.zero_le _, ST, Lib.hid ⟨0, rfl⟩⟩
  case round =>
    clear g ST
    obtain ⟨k, rfl, hk, hz, hn⟩ := hrel
    by_cases hlt : k < l.length
    · obtain ⟨⟨id, m, f⟩, hx⟩ := at_lt hlt
      obtain ⟨nm, hnm⟩ : ∃ nm, str id = nm := ⟨_, rfl⟩
      obtain ⟨b, o, rfl, hb, r0, r1, -⟩ := three_at (H.out.below (drew_below hn.out)) hx hnm
      have gk : (k : Int) < (l.length : Int) := by omega
      have hid : nm.data.toList = id := by rw [← hnm]
      have V := Lib.hid (fun W => rname_all_any nm W)
      rw [hid] at V
      cases hv : validB id with
      | false =>
        have R := Lib.hid (fb_stop hz.out hx (badR_name (seen := (l.take k).map idR) (x := (id, m, f)) hv) (by decide))
        rw [hv] at V
        clear hx hz hnm hb hid hv r1
        go_wp2_with fail
        refine (V.out _).mono ?_
        rintro e w' ⟨rfl, rfl⟩
        go_wp2_with fail
        go_ret2
        exact ⟨ret_chk (by rw [R.out]) (by rw [R.out]), hn.out⟩
      | true =>
        rw [hv] at V
        have HX := Lib.hid hx
        have HNM := Lib.hid hnm
        have HV := Lib.hid hv
        clear hx hid hv hnm hb r1
        go_wp2_with fail
        refine (V.out _).mono ?_
        rintro e w' ⟨rfl, rfl⟩
        clear V r0
        go_wp2_with fail
        go_loopw [5] (fun i wr => ∃ j : Nat, i = .int .i64 j ∧ j ≤ k ∧ Hid (∀ (t' : Nat) (x : Rt), t' < j → l[t']? = some x → idR x ≠ id) ∧ Hid (∃ n, wr = w.drewN n)) (fun i _ => k - (intOf i).toNat)
        case atStart => exact ⟨0, rfl, Nat.zero_le _, Lib.hid (fun t' x ht => absurd ht (Nat.not_lt_zero _)), hn⟩
        case round =>
          clear hn
          obtain ⟨j, rfl, hj, hall, hn⟩ := hrel
          by_cases hjk : j < k
          · obtain ⟨⟨id2, m2, f2⟩, hy⟩ := at_lt (show j < l.length by omega)
            obtain ⟨nm2, hnm2⟩ : ∃ nm, str id2 = nm := ⟨_, rfl⟩
            obtain ⟨b1, o1, e1, hb1, r0, -, -⟩ := three_at (H.out.below (drew_below hn.out)) HX.out HNM.out
            obtain ⟨b2, o2, e2, hb2, s0, -, -⟩ := three_at (H.out.below (drew_below hn.out)) hy hnm2
            cases e1
            cases e2
            have gj : (j : Int) < (l.length : Int) := by omega
            have gj2 : (j : Int) < (k : Int) := by omega
            by_cases hid : id2 = id
            · have R := Lib.hid (fb_stop hz.out HX.out (badR_twice (seen := (l.take k).map idR) (x := (id, m, f)) HV.out (keys_hit hjk hy hid)) (by decide))
              have eb := bytes_eq (show nm2 = nm by rw [← hnm2, ← HNM.out, hid])
              clear hz hy hnm2 hb1 hb2 hid hall HX HNM HV
              go_wp2_with fail
              go_quiet (fail)
              go_wp2_with fail
              go_ret2
              exact ⟨ret_chk (by rw [R.out]) (by rw [R.out]), (drew_on hn nq).out⟩
            · have N : Hid (∀ (t' : Nat) (x : Rt), t' < j + 1 → l[t']? = some x → idR x ≠ id) := by
                intro t' x ht hx
                by_cases e : t' = j
                · subst e
                  rw [hy] at hx
                  obtain rfl := Option.some.inj hx
                  exact hid
                · exact hall.out t' x (by omega) hx
              have eb := bytes_ne (str_ne hnm2 HNM.out hid)
              clear hy hnm2 hb1 hb2 hid hall
              go_wp2_with fail
              go_quiet (fail)
              go_wp2_with fail
              go_roundw
              case rel => exact ⟨j + 1, by go_num, by omega, N, drew_on hn nq⟩
              case measure => simp [intOf]; omega
          · have dj : decide (j < k) = false := by rw [decide_eq_false_iff_not]; exact hjk
            have NM : id ∉ (l.take k).map idR := keys_none fun t' x ht hx => hall.out t' x (by omega) hx
            obtain ⟨b1, o1, e1, hb1, -, r1, -⟩ := three_at (H.out.below (drew_below hn.out)) HX.out HNM.out
            cases e1
            have RF := Lib.hid (fun hf => fb_stop hz.out HX.out (badR_mode (x := (id, m, f)) HV.out NM hf) (by decide))
            have RN := Lib.hid (fun hf => fb_next hz.out HX.out (badR_none (x := (id, m, f)) HV.out NM hf))
            simp only at RF RN
            have M := Lib.hid (fun W => rmode_any m W)
            clear hz hall NM hjk HX HNM HV hb1
            by_cases h1 : okM m
            · have N := Lib.hid (RN.out h1)
              rw [decide_eq_true h1] at M
              clear RF RN h1
              go_wp2_with fail
              refine (M.out _).mono ?_
              rintro e w' ⟨rfl, rfl⟩
              go_wp2_with fail
              go_roundw
              case rel => exact ⟨k + 1, by go_num, by omega, N, hn⟩
              case measure => simp [intOf]; omega
            · have R := Lib.hid (RF.out h1)
              rw [decide_eq_false h1] at M
              clear RF RN h1
              go_wp2_with fail
              refine (M.out _).mono ?_
              rintro e w' ⟨rfl, rfl⟩
              go_wp2_with fail
              go_ret2
              exact ⟨ret_chk (by rw [R.out]) (by rw [R.out]), hn.out⟩
    · have R := Lib.hid (fb_done hz.out (by omega))
      have d : decide (k < l.length) = false := by rw [decide_eq_false_iff_not]; exact hlt
      clear hz hlt
      go_wp2_with fail
      go_ret2
      exact ⟨ret_chk (by rw [R.out]) (by rw [R.out]), hn.out⟩
set_option maxRecDepth 100000 in
set_option maxHeartbeats 4000000 in
theorem rfind_any (v : Value) (l : List Rt) (hl : l.length ≤ 1099511627776) (id : List UInt8) (t : ByteArray) (ht : str id = t) (w : World) (h : LstR w v l) : Calls Tryd.prog 12 #[v, .string t] w fun e w' => e = .returned (.tuple #[.int .i64 (max (fdT (isR id) l) 0), .bool (decide (0 ≤ fdT (isR id) l))]) ∧ w = w' := by
  have H := Lib.hid h
  have HT := Lib.hid ht
  clear ht
  obtain ⟨A, c, rfl, -, -, -⟩ := h
  obtain ⟨r, hr⟩ : ∃ r, fdT (isR id) l = r := ⟨_, rfl⟩
  rw [hr]
  have HR := Lib.hid hr
  clear hr
  go_enter Tryd.func12, Tryd.ntmps12
  go_wp2_with fail
  go_loop [6] (fun i => ∃ k : Nat, i = .int .i64 k ∧ k ≤ l.length ∧ Hid (r = fdF (isR id) k (l.drop k))) (fun i => l.length - (intOf i).toNat)
  case atStart => exact ⟨0, rfl, Nat.zero_le _, Lib.hid (by rw [← HR.out]; rfl)⟩
  case round =>
    obtain ⟨k, rfl, hk, hz⟩ := hrel
    by_cases hlt : k < l.length
    · obtain ⟨⟨ix, m, f⟩, hx⟩ := at_lt hlt
      obtain ⟨nm, hnm⟩ : ∃ nm, str ix = nm := ⟨_, rfl⟩
      obtain ⟨b, o, rfl, hb, r0, r1, r2⟩ := three_at H.out hx hnm
      have gk : (k : Int) < (l.length : Int) := by omega
      by_cases he : ix = id
      · have g := bytes_eq (a := nm) (b := t) (by rw [← hnm, ← HT.out, he])
        have R := Lib.hid (fd_hit hz.out hx (isR_yes he))
        clear hx hz hnm hb he hlt HR HT r1 r2
        go_wp2_with fail
        go_ret2
        exact ⟨ret_fnd (by rw [R.out, Int.max_eq_left (by omega)]) (by rw [R.out, decide_eq_true (by omega)]), rfl⟩
      · have g := bytes_ne (a := nm) (b := t) (str_ne hnm HT.out he)
        have N := Lib.hid (fd_miss hz.out hx (isR_no he))
        clear hx hz hnm hb he r1 r2
        go_wp2_with fail
        go_round
        case rel => exact ⟨k + 1, by go_num, by omega, N⟩
        case measure => simp [intOf]; omega
    · have R := Lib.hid (fd_end hz.out (by omega))
      have d : decide (k < l.length) = false := by rw [decide_eq_false_iff_not]; exact hlt
      clear hz hlt HR HT
      go_wp2_with fail
      go_ret2
      exact ⟨ret_fnd (by rw [R.out]; rfl) (by rw [R.out]; rfl), rfl⟩
end Go.Proofs.YtlpemdhjbpekaaaDoor
