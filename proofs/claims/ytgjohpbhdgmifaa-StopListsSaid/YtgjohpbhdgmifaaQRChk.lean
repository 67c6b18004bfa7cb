/-
  The reference's Check of tables of stops, and the laws' helper small: what each call answers; nothing that existed before the call has changed behind it. Condition: identifiers of at most 2^20 bytes, for Check.
-/
import Derived.Test.YtgjohpbhdgmifaaQRef
import Derived.Test.YtgjohpbhdgmifaaQId
import Derived.Test.YtgjohpbhdgmifaaQChk
namespace Go.Proofs.Ytgjohpbhdgmifaa
open Go.RowKit

set_option maxRecDepth 100000 in
set_option maxHeartbeats 4000000 in
theorem rcheck_any (v : Value) (l : List St) (hl : l.length ≤ 9223372036854775807) (hs : ∀ (j : Nat) x, l[j]? = some x → x.1.length ≤ 1048576) (w : World) (h : LstS w v l) : Calls Try.prog 13 #[v] w fun e w' => e = .returned (.tuple #[.int .i64 ((chkT l).1), .int .i64 ((chkT l).2)]) ∧ w = w' := by
  have H := Lib.hid h
  have HS := Lib.hid hs
  clear hs
  obtain ⟨A, c, rfl, -, -, -⟩ := h
  by_cases h64 : 64 < l.length
  · have R := Lib.hid (chkT_many h64)
    have g : (64 : Int) < (l.length : Int) := by omega
    generalize chkT l = q at R ⊢
    clear h64
    go_enter Try.func13, Try.ntmps13
    go_wp2_with fail
    go_ret2
    exact ⟨ret_chk (by rw [R.out]) (by rw [R.out]), rfl⟩
  have g : decide ((64 : Int) < (l.length : Int)) = false := by rw [decide_eq_false_iff_not]; omega
  have ST := Lib.hid (chkT_start (l := l) (by omega))
  have h64' : l.length ≤ 64 := by omega
  obtain ⟨q, hq⟩ : ∃ q, chkT l = q := ⟨_, rfl⟩
  rw [hq]
  have HQ := Lib.hid hq
  clear h64 hq
  go_enter Try.func13, Try.ntmps13
  go_wp2_with fail
  go_loop [4] (fun i => ∃ k : Nat, i = .int .i64 k ∧ k ≤ l.length ∧ Hid (chkT l = chkF (idsS (l.take k)) k (l.drop k))) (fun i => l.length - (intOf i).toNat)
  case atStart => exact ⟨0, rfl, Nat.zero_le _, ST⟩
  case round =>
    clear g ST
    obtain ⟨k, rfl, hk, hz⟩ := hrel
    by_cases hlt : k < l.length
    · obtain ⟨⟨id, z, f, ch⟩, hx⟩ := at_lt hlt
      have hsz := HS.out k _ hx
      obtain ⟨nm, hnm⟩ : ∃ nm, str id = nm := ⟨_, rfl⟩
      have F := Lib.hid (rfind_any _ l (by omega) id nm hnm w H.out)
      obtain ⟨b, o, rfl, hb, r0, r1, r2, r3⟩ := four_at H.out hx hnm
      have gk : (k : Int) < (l.length : Int) := by omega
      have hns : nm.size ≤ 1048576 := by rw [← hnm, size_str]; exact hsz
      have hid : nm.data.toList = id := by rw [← hnm]
      have V := Lib.hid (rident_any nm (by omega) w)
      rw [hid] at V
      have FL := fndT_lt hx
      simp only at FL
      generalize fndT l id = p at F FL
      cases hv : validB id with
      | false =>
        have R := Lib.hid (chkT_stop hz.out hx (bad_name (seen := idsS (l.take k)) (x := (id, z, f, ch)) hv) (by decide))
        rw [hv] at V
        clear hx hz hnm hb hid hv FL F hsz hns
        go_wp2_with fail
        refine V.out.mono ?_
        rintro e w' ⟨rfl, rfl⟩
        go_wp2_with fail
        go_ret2
        exact ⟨ret_chk (by rw [← HQ.out, R.out]) (by rw [← HQ.out, R.out]), rfl⟩
      | true =>
        rw [hv] at V
        by_cases hd : id ∈ idsS (l.take k)
        · have R := Lib.hid (chkT_stop hz.out hx (bad_twice (x := (id, z, f, ch)) hv hd) (by decide))
          have fl := FL.2 hd
          clear hx hz hnm hb hid hv FL hsz hns hd
          go_wp2_with fail
          refine V.out.mono ?_
          rintro e w' ⟨rfl, rfl⟩
          go_wp2_with fail
          refine F.out.mono ?_
          rintro e w' ⟨rfl, rfl⟩
          go_wp2_with fail
          go_ret2
          exact ⟨ret_chk (by rw [← HQ.out, R.out]) (by rw [← HQ.out, R.out]), rfl⟩
        · have fl : decide (p < (k : Int)) = false := decide_eq_false fun e => hd (FL.1 e)
          have RF := Lib.hid (fun hf => chkT_stop hz.out hx (bad_far (x := (id, z, f, ch)) hv hd hf) (by decide))
          have RN := Lib.hid (fun hf => chkT_next hz.out hx (bad_none (x := (id, z, f, ch)) hv hd hf))
          unfold farS at RF RN
          simp only at RF RN
          clear hx hz hnm hb hid hv FL hsz hns hd
          go_wp2_with fail
          refine V.out.mono ?_
          rintro e w' ⟨rfl, rfl⟩
          go_wp2_with fail
          refine F.out.mono ?_
          rintro e w' ⟨rfl, rfl⟩
          clear V F
          by_cases h1 : z < 0
          · have R := Lib.hid (RF.out (.inl h1))
            clear RF RN
            go_wp2_with fail
            go_ret2
            exact ⟨ret_chk (by rw [← HQ.out, R.out]) (by rw [← HQ.out, R.out]), rfl⟩
          have d1 : decide (z < 0) = false := decide_eq_false h1
          by_cases h2 : 16 ≤ z
          · have R := Lib.hid (RF.out (.inr (.inl h2)))
            clear RF RN h1
            go_wp2_with fail
            go_ret2
            exact ⟨ret_chk (by rw [← HQ.out, R.out]) (by rw [← HQ.out, R.out]), rfl⟩
          have d2 : decide (16 ≤ z) = false := decide_eq_false h2
          by_cases h3 : ch < 0
          · have R := Lib.hid (RF.out (.inr (.inr (.inl h3))))
            clear RF RN h1 h2
            go_wp2_with fail
            go_ret2
            exact ⟨ret_chk (by rw [← HQ.out, R.out]) (by rw [← HQ.out, R.out]), rfl⟩
          have d3 : decide (ch < 0) = false := decide_eq_false h3
          by_cases h4 : 3600 < ch
          · have R := Lib.hid (RF.out (.inr (.inr (.inr h4))))
            clear RF RN h1 h2 h3
            go_wp2_with fail
            go_ret2
            exact ⟨ret_chk (by rw [← HQ.out, R.out]) (by rw [← HQ.out, R.out]), rfl⟩
          have d4 : decide (3600 < ch) = false := decide_eq_false h4
          have N := Lib.hid (RN.out (by omega))
          clear RF RN h1 h2 h3 h4
          go_wp2_with fail
          go_round
          case rel => exact ⟨k + 1, by go_num, by omega, N⟩
          case measure => simp [intOf]; omega
    · have R := Lib.hid (chkT_done hz.out (by omega))
      have d : decide (k < l.length) = false := by rw [decide_eq_false_iff_not]; exact hlt
      clear hz hlt
      go_wp2_with fail
      go_ret2
      exact ⟨ret_chk (by rw [← HQ.out, R.out]) (by rw [← HQ.out, R.out]), rfl⟩

/-! ### small -/
set_option maxRecDepth 100000 in
set_option maxHeartbeats 4000000 in
theorem small_any (v : Value) (l : List St) (hl : l.length ≤ 9223372036854775807) (w : World) (h : LstS w v l) : Calls Try.prog 10 #[v] w fun e w' => e = .returned (.bool (smallB l)) ∧ Below w.heap.size w w' := by
  have H := Lib.hid h
  obtain ⟨A, c, rfl, -, -, -⟩ := h
  by_cases h2 : 200 < l.length
  · have R := Lib.hid (small_many h2)
    have g : (200 : Int) < (l.length : Int) := by omega
    generalize smallB l = q at R ⊢
    clear h2
    go_enter Try.func10, Try.ntmps10
    go_wp2_with fail
    go_ret
    exact ⟨ret_bool R.out.symm, Below.refl _ _⟩
  have g : decide ((200 : Int) < (l.length : Int)) = false := by rw [decide_eq_false_iff_not]; omega
  have hl2 : l.length ≤ 200 := by omega
  obtain ⟨q, hq⟩ : ∃ q, smallB l = q := ⟨_, rfl⟩
  rw [hq]
  have HQ := Lib.hid hq
  clear h2 hq
  go_enter Try.func10, Try.ntmps10
  go_wp2_with fail
  go_loopw [10] (fun i wr => ∃ k : Nat, i = .int .i64 k ∧ k ≤ l.length ∧ Hid (∀ (j : Nat) x, j < k → l[j]? = some x → x.1.length ≤ 256) ∧ Hid (Below w.heap.size w wr)) (fun i _ => l.length - (intOf i).toNat)
  case atStart => exact ⟨0, rfl, Nat.zero_le _, Lib.hid (fun j x hj => absurd hj (Nat.not_lt_zero _)), Lib.hid (Below.refl _ _)⟩
  case round =>
    clear g
    obtain ⟨k, rfl, hk, hz, HB⟩ := hrel
    by_cases hlt : k < l.length
    · obtain ⟨⟨id, z, f, ch⟩, hx⟩ := at_lt hlt
      obtain ⟨nm, hnm⟩ : ∃ nm, str id = nm := ⟨_, rfl⟩
      obtain ⟨b, o, rfl, hb, r0, r1, r2, r3⟩ := four_at (H.out.below HB.out) hx hnm
      have gk : (k : Int) < (l.length : Int) := by omega
      obtain ⟨w7, hw7⟩ : ∃ W, wr.alloc (.cells #[.string nm, .int .i64 z, .bool f, .int .i64 ch] 43 (0, 0)) = W := ⟨_, rfl⟩
      obtain ⟨b7, p0, p1, p2, p3, -⟩ := box_st hw7
      have B7 : Hid (Below w.heap.size w w7) := HB.out.trans (b7.mono HB.out.size)
      have hns : nm.size = id.length := by rw [← hnm, size_str]
      by_cases h5 : 256 < id.length
      · have R := Lib.hid (small_long hx h5)
        have g : (256 : Int) < (nm.size : Int) := by omega
        clear hx hz HB b7 hnm hb hns h5
        go_wp2_with fail
        go_ret
        exact ⟨ret_bool (by rw [← HQ.out, R.out]), B7.out⟩
      · have g : decide ((256 : Int) < (nm.size : Int)) = false := by rw [decide_eq_false_iff_not]; omega
        have N : Hid (∀ (j : Nat) x, j < k + 1 → l[j]? = some x → x.1.length ≤ 256) := by
          intro j x hj h
          by_cases e : j = k
          · subst e
            rw [hx] at h
            obtain rfl := Option.some.inj h
            exact Nat.le_of_not_lt h5
          · exact hz.out j x (by omega) h
        clear hx hz HB b7 hnm hb hns h5
        go_wp2_with fail
        go_roundw
        case rel => exact ⟨k + 1, by go_num, by omega, N, B7⟩
        case measure => simp [intOf]; omega
    · have R := Lib.hid (small_of hl2 (fun j x h => hz.out j x (by have := (List.getElem?_eq_some_iff.1 h).1; omega) h))
      have d : decide (k < l.length) = false := by rw [decide_eq_false_iff_not]; exact hlt
      clear hz hlt
      go_wp2_with fail
      go_ret
      exact ⟨ret_bool (by rw [← HQ.out, R.out]), HB.out⟩
end Go.Proofs.Ytgjohpbhdgmifaa
