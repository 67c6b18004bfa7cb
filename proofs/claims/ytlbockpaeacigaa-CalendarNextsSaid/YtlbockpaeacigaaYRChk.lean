/-
  The reference's Check and CheckExceptions: what each call answers; it only draws. Condition: identifiers of at most 2^20 bytes.
-/
import Derived.Test.YtlbockpaeacigaaYRRsn
namespace Go.Proofs.Ytlbockpaeacigaa
open Go.RowKit

set_option maxRecDepth 100000 in
set_option maxHeartbeats 4000000 in
theorem rcheck_any (v : Value) (l : List Cl) (hl : l.length ≤ 9223372036854775807) (hs : ∀ (j : Nat) x, l[j]? = some x → x.1.length ≤ 1048576) (w : World) (h : LstC w v l) : Calls Try.prog 14 #[v] w fun e w' => e = .returned (.tuple #[.int .i64 ((chkC l).1), .int .i64 ((chkC l).2)]) ∧ ∃ m, w' = w.drewN m := by
  have H := Lib.hid h
  have HS := Lib.hid hs
  clear hs
  obtain ⟨A, c, rfl, -, -, -⟩ := h
  by_cases h64 : 64 < l.length
  · have R := Lib.hid (chkC_many h64)
    have g : (64 : Int) < (l.length : Int) := by omega
    generalize chkC l = q at R ⊢
    clear h64
    go_enter Try.func14, Try.ntmps14
    go_wp2_with fail
    go_ret2
    exact ⟨ret_chk (by rw [R.out]) (by rw [R.out]), 0, rfl⟩
  have g : decide ((64 : Int) < (l.length : Int)) = false := by rw [decide_eq_false_iff_not]; omega
  have ST := Lib.hid (chkC_start (l := l) (by omega))
  have h64' : l.length ≤ 64 := by omega
  generalize chkC l = q at ST ⊢
  clear h64
  go_enter Try.func14, Try.ntmps14
  go_wp2_with fail
  go_loopw [4] (fun i wr => ∃ k : Nat, i = .int .i64 k ∧ k ≤ l.length ∧ Hid (q = fbF badC idC ((l.take k).map idC) k (l.drop k)) ∧ Hid (∃ n, wr = w.drewN n)) (fun i _ => l.length - (intOf i).toNat)
  case atStart => exact ⟨0, rfl, Nat.zero_le _, ST, Lib.hid ⟨0, rfl⟩⟩
  case round =>
    clear g ST
    obtain ⟨k, rfl, hk, hz, hn⟩ := hrel
    by_cases hlt : k < l.length
    · obtain ⟨⟨id, kw, f, t⟩, hx⟩ := at_lt hlt
      have hsz := HS.out k _ hx
      obtain ⟨nm, hnm⟩ : ∃ nm, str id = nm := ⟨_, rfl⟩
      obtain ⟨b, o, rfl, hb, r0, -, r8, r9⟩ := ten_at (H.out.below (drew_below hn.out)) hx hnm
      have gk : (k : Int) < (l.length : Int) := by omega
      have hns : nm.size ≤ 1048576 := by rw [← hnm, size_str]; exact hsz
      have hid : nm.data.toList = id := by rw [← hnm]
      have V := Lib.hid (fun W => rvalid_any nm (by omega) W)
      rw [hid] at V
      cases hv : validB id with
      | false =>
        have R := Lib.hid (fb_stop hz.out hx (badC_name (seen := (l.take k).map idC) (x := (id, kw, f, t)) hv) (by decide))
        rw [hv] at V
        clear hx hz hnm hb hid hv hsz hns r8 r9
        go_wp2_with fail
        refine (V.out _).mono ?_
        rintro e w' ⟨rfl, rfl⟩
        go_wp2_with fail
        go_ret2
        exact ⟨ret_chk (by rw [R.out]) (by rw [R.out]), hn.out⟩
      | true =>
        rw [hv] at V
        have HX := Lib.hid hx
        have HNM := Lib.hid hnm
        have HV := Lib.hid hv
        clear hx hid hv hsz hns hnm hb r8 r9
        go_wp2_with fail
        refine (V.out _).mono ?_
        rintro e w' ⟨rfl, rfl⟩
        clear V r0
        go_wp2_with fail
        go_loopw [5] (fun i wr => ∃ j : Nat, i = .int .i64 j ∧ j ≤ k ∧ Hid (∀ (t' : Nat) (x : Cl), t' < j → l[t']? = some x → idC x ≠ id) ∧ Hid (∃ n, wr = w.drewN n)) (fun i _ => k - (intOf i).toNat)
        case atStart => exact ⟨0, rfl, Nat.zero_le _, Lib.hid (fun t' x ht => absurd ht (Nat.not_lt_zero _)), hn⟩
        case round =>
          clear hn
          obtain ⟨j, rfl, hj, hall, hn⟩ := hrel
          by_cases hjk : j < k
          · obtain ⟨⟨id2, kw2, f2, t2⟩, hy⟩ := at_lt (show j < l.length by omega)
            obtain ⟨nm2, hnm2⟩ : ∃ nm, str id2 = nm := ⟨_, rfl⟩
            obtain ⟨b1, o1, e1, hb1, r0, -, -, -⟩ := ten_at (H.out.below (drew_below hn.out)) HX.out HNM.out
            obtain ⟨b2, o2, e2, hb2, s0, -, -, -⟩ := ten_at (H.out.below (drew_below hn.out)) hy hnm2
            cases e1
            cases e2
            have gj : (j : Int) < (l.length : Int) := by omega
            have gj2 : (j : Int) < (k : Int) := by omega
            by_cases hid : id2 = id
            · have R := Lib.hid (fb_stop hz.out HX.out (badC_twice (seen := (l.take k).map idC) (x := (id, kw, f, t)) HV.out (keys_hit hjk hy hid)) (by decide))
              have eb := bytes_eq (show nm2 = nm by rw [← hnm2, ← HNM.out, hid])
              clear hz hy hnm2 hb1 hb2 hid hall HX HNM HV
              go_wp2_with fail
              go_quiet (fail)
              go_wp2_with fail
              go_ret2
              exact ⟨ret_chk (by rw [R.out]) (by rw [R.out]), (drew_on hn nq).out⟩
            · have N : Hid (∀ (t' : Nat) (x : Cl), t' < j + 1 → l[t']? = some x → idC x ≠ id) := by
                intro t' x ht hx
                by_cases e : t' = j
                · subst e
                  rw [hy] at hx
                  obtain rfl := Option.some.inj hx
                  exact hid
                · exact hall.out t' x (by omega) hx
              have eb := bytes_ne (str_ne hnm2 HNM.out hid)
              clear hy hnm2 hb1 hb2 hid hall
              go_wp2_with fail
              go_quiet (fail)
              go_wp2_with fail
              go_roundw
              case rel => exact ⟨j + 1, by go_num, by omega, N, drew_on hn nq⟩
              case measure => simp [intOf]; omega
          · have dj : decide (j < k) = false := by rw [decide_eq_false_iff_not]; exact hjk
            have NM : id ∉ (l.take k).map idC := keys_none fun t' x ht hx => hall.out t' x (by omega) hx
            obtain ⟨b1, o1, e1, hb1, r0, -, r8, r9⟩ := ten_at (H.out.below (drew_below hn.out)) HX.out HNM.out
            cases e1
            have RF := Lib.hid (fun hf => fb_stop hz.out HX.out (badC_date (x := (id, kw, f, t)) HV.out NM hf) (by decide))
            have RN := Lib.hid (fun hf => fb_next hz.out HX.out (badC_none (x := (id, kw, f, t)) HV.out NM hf))
            simp only at RF RN
            have VF := Lib.hid (fun W => rdvalid_any f W)
            have VT := Lib.hid (fun W => rdvalid_any t W)
            clear hz hall NM hjk HX HNM HV hb1 r0
            by_cases h1 : dayP f
            case neg =>
              have R := Lib.hid (RF.out fun h => h1 h.1)
              rw [decide_eq_false h1] at VF
              clear RF RN h1 r9
              go_wp2_with fail
              go_quiet (first | (go_at_call 32; with_reducible exact quiet_of VF.out _ _) | (go_at_call 32; with_reducible exact quiet_of VT.out _ _))
              go_wp2_with fail
              go_ret2
              exact ⟨ret_chk (by rw [R.out]) (by rw [R.out]), (drew_on hn nq).out⟩
            rw [decide_eq_true h1] at VF
            by_cases h2 : dayP t
            case neg =>
              have R := Lib.hid (RF.out fun h => h2 h.2.1)
              rw [decide_eq_false h2] at VT
              clear RF RN h1 h2
              go_wp2_with fail
              go_quiet (first | (go_at_call 32; with_reducible exact quiet_of VF.out _ _) | (go_at_call 32; with_reducible exact quiet_of VT.out _ _))
              go_wp2_with fail
              go_ret2
              exact ⟨ret_chk (by rw [R.out]) (by rw [R.out]), (drew_on hn nq).out⟩
            rw [decide_eq_true h2] at VT
            by_cases h3 : t < f
            case pos =>
              have R := Lib.hid (RF.out fun h => by have := h.2.2; omega)
              have d3 := decide_eq_true h3
              clear RF RN h1 h2 h3
              go_wp2_with fail
              go_quiet (first | (go_at_call 32; with_reducible exact quiet_of VF.out _ _) | (go_at_call 32; with_reducible exact quiet_of VT.out _ _))
              go_wp2_with fail
              go_ret2
              exact ⟨ret_chk (by rw [R.out]) (by rw [R.out]), (drew_on hn nq).out⟩
            have N := Lib.hid (RN.out ⟨h1, h2, by omega⟩)
            have d3 : decide (t < f) = false := decide_eq_false h3
            clear RF RN h1 h2 h3
            go_wp2_with fail
            go_quiet (first | (go_at_call 32; with_reducible exact quiet_of VF.out _ _) | (go_at_call 32; with_reducible exact quiet_of VT.out _ _))
            go_wp2_with fail
            go_roundw
            case rel => exact ⟨k + 1, by go_num, by omega, N, drew_on hn nq⟩
            case measure => simp [intOf]; omega
    · have R := Lib.hid (fb_done hz.out (by omega))
      have d : decide (k < l.length) = false := by rw [decide_eq_false_iff_not]; exact hlt
      clear hz hlt
      go_wp2_with fail
      go_ret2
      exact ⟨ret_chk (by rw [R.out]) (by rw [R.out]), hn.out⟩
end Go.Proofs.Ytlbockpaeacigaa
