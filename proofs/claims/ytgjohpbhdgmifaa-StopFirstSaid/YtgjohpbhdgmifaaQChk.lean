/-
  The code's checkStop and Check of tables of stops: what each call answers; nothing that existed before the call has changed behind it. Condition: identifiers of at most 2^20 bytes.
-/
import Derived.Test.YtgjohpbhdgmifaaQSt
namespace Go.Proofs.Ytgjohpbhdgmifaa
open Go.RowKit

theorem ret_chk {a b c d : Int} (h : a = b) (k : c = d) : Ending.returned (.tuple #[.int .i64 a, .int .i64 c]) = .returned (.tuple #[.int .i64 b, .int .i64 d]) := by rw [h, k]
set_option maxRecDepth 100000 in
set_option maxHeartbeats 4000000 in
theorem kstop_any (id : List UInt8) (z : Int) (f : Bool) (ch : Int) (s : ByteArray) (hs : str id = s) (hsz : s.size ≤ 1048576) (b : Nat) (ls : List (List UInt8)) (w : World) (hm : MapB w b ls) :
    Calls Try.prog 23 #[.agg #[.string s, .int .i64 z, .bool f, .int .i64 ch], .map (some b)] w fun e w' => e = .returned (.int .i64 (badS ls (id, z, f, ch))) ∧ Below w.heap.size w w' := by
  have hid : s.data.toList = id := by rw [← hs]
  obtain ⟨w7, hw7⟩ : ∃ W, w.alloc (.cells #[.string s, .int .i64 z, .bool f, .int .i64 ch] 43 (0, 0)) = W := ⟨_, rfl⟩
  obtain ⟨b7, p0, p1, p2, p3, -⟩ := box_st hw7
  have lk := (hm.below b7).look s id hid (by omega)
  have V := Lib.hid (valid_any s (by omega) w7)
  rw [hid] at V
  have B7 := Lib.hid b7
  clear b7 hm hid hs
  cases hv : validB id with
  | false =>
    have R := Lib.hid (bad_name (seen := ls) (x := (id, z, f, ch)) hv)
    rw [hv] at V
    clear hv
    go_enter Try.func23, Try.ntmps23
    go_wp2_with fail
    refine V.out.mono ?_
    rintro e w' ⟨rfl, rfl⟩
    go_wp2_with fail
    go_ret
    exact ⟨ret_int R.out.symm, B7.out⟩
  | true =>
    rw [hv] at V
    by_cases hd : id ∈ ls
    · have R := Lib.hid (bad_twice (x := (id, z, f, ch)) hv hd)
      rw [decide_eq_true hd] at lk
      clear hv hd
      go_enter Try.func23, Try.ntmps23
      go_wp2_with fail
      refine V.out.mono ?_
      rintro e w' ⟨rfl, rfl⟩
      go_wp2_with fail
      go_ret
      exact ⟨ret_int R.out.symm, B7.out⟩
    · rw [decide_eq_false hd] at lk
      have RF := Lib.hid (fun hf => bad_far (x := (id, z, f, ch)) hv hd hf)
      have RN := Lib.hid (fun hf => bad_none (x := (id, z, f, ch)) hv hd hf)
      clear hv hd
      unfold farS at RF RN
      simp only at RF RN
      by_cases h1 : z < 0
      · have R := Lib.hid (RF.out (.inl h1))
        clear RF RN
        go_enter Try.func23, Try.ntmps23
        go_wp2_with fail
        refine V.out.mono ?_
        rintro e w' ⟨rfl, rfl⟩
        go_wp2_with fail
        go_ret
        exact ⟨ret_int R.out.symm, B7.out⟩
      have d1 : decide (z < 0) = false := decide_eq_false h1
      by_cases h2 : 16 ≤ z
      · have R := Lib.hid (RF.out (.inr (.inl h2)))
        clear RF RN h1
        go_enter Try.func23, Try.ntmps23
        go_wp2_with fail
        refine V.out.mono ?_
        rintro e w' ⟨rfl, rfl⟩
        go_wp2_with fail
        go_ret
        exact ⟨ret_int R.out.symm, B7.out⟩
      have d2 : decide (16 ≤ z) = false := decide_eq_false h2
      by_cases h3 : ch < 0
      · have R := Lib.hid (RF.out (.inr (.inr (.inl h3))))
        clear RF RN h1 h2
        go_enter Try.func23, Try.ntmps23
        go_wp2_with fail
        refine V.out.mono ?_
        rintro e w' ⟨rfl, rfl⟩
        go_wp2_with fail
        go_ret
        exact ⟨ret_int R.out.symm, B7.out⟩
      have d3 : decide (ch < 0) = false := decide_eq_false h3
      by_cases h4 : 3600 < ch
      · have R := Lib.hid (RF.out (.inr (.inr (.inr h4))))
        clear RF RN h1 h2 h3
        go_enter Try.func23, Try.ntmps23
        go_wp2_with fail
        refine V.out.mono ?_
        rintro e w' ⟨rfl, rfl⟩
        go_wp2_with fail
        go_ret
        exact ⟨ret_int R.out.symm, B7.out⟩
      have d4 : decide (3600 < ch) = false := decide_eq_false h4
      have R := Lib.hid (RN.out (by omega))
      clear RF RN h1 h2 h3 h4
      go_enter Try.func23, Try.ntmps23
      go_wp2_with fail
      refine V.out.mono ?_
      rintro e w' ⟨rfl, rfl⟩
      go_wp2_with fail
      go_ret
      exact ⟨ret_int R.out.symm, B7.out⟩
set_option maxRecDepth 100000 in
set_option maxHeartbeats 4000000 in
theorem kcheck_any (v : Value) (l : List St) (hl : l.length ≤ 9223372036854775807) (hs : ∀ (j : Nat) x, l[j]? = some x → x.1.length ≤ 1048576) (w : World) (h : LstS w v l) : Calls Try.prog 12 #[v] w fun e w' => e = .returned (.tuple #[.int .i64 ((chkT l).1), .int .i64 ((chkT l).2)]) ∧ Below w.heap.size w w' := by
  have H := Lib.hid h
  have HS := Lib.hid hs
  clear hs
  obtain ⟨A, c, rfl, -, -, -⟩ := h
  by_cases h64 : 64 < l.length
  · have R := Lib.hid (chkT_many h64)
    have g : (64 : Int) < (l.length : Int) := by omega
    generalize chkT l = q at R ⊢
    clear h64
    go_enter Try.func12, Try.ntmps12
    go_wp2_with fail
    go_ret2
    exact ⟨ret_chk (by rw [R.out]) (by rw [R.out]), Below.refl _ _⟩
  have g : decide ((64 : Int) < (l.length : Int)) = false := by rw [decide_eq_false_iff_not]; omega
  have ST := Lib.hid (chkT_start (l := l) (by omega))
  have h64' : l.length ≤ 64 := by omega
  have hmm := @run_makeMap Try.prog
  obtain ⟨q, hq⟩ : ∃ q, chkT l = q := ⟨_, rfl⟩
  rw [hq]
  have HQ := Lib.hid hq
  clear h64 hq
  go_enter Try.func12, Try.ntmps12
  go_wp2_with fail
  go_loopw [14] (fun i wr => ∃ k : Nat, i = .int .i64 k ∧ k ≤ l.length ∧ Hid (chkT l = chkF (idsS (l.take k)) k (l.drop k)) ∧ Hid (MapB wr w.heap.size (idsS (l.take k))) ∧ Hid (Below w.heap.size w wr)) (fun i _ => l.length - (intOf i).toNat)
  case atStart => exact ⟨0, rfl, Nat.zero_le _, ST, Lib.hid (MapB.made w), Lib.hid ((Below.refl _ _).alloc (Nat.le_refl _) _)⟩
  case round =>
    clear g ST hmm
    obtain ⟨k, rfl, hk, hz, HM, HB⟩ := hrel
    by_cases hlt : k < l.length
    · obtain ⟨⟨id, z, f, ch⟩, hx⟩ := at_lt hlt
      have hsz := HS.out k _ hx
      obtain ⟨nm, hnm⟩ : ∃ nm, str id = nm := ⟨_, rfl⟩
      obtain ⟨b, o, rfl, hb, r0, r1, r2, r3⟩ := four_at (H.out.below HB.out) hx hnm
      have gk : (k : Int) < (l.length : Int) := by omega
      obtain ⟨w7, hw7⟩ : ∃ W, wr.alloc (.cells #[.string nm, .int .i64 z, .bool f, .int .i64 ch] 43 (0, 0)) = W := ⟨_, rfl⟩
      obtain ⟨b7, p0, p1, p2, p3, s7⟩ := box_st hw7
      have B7 : Hid (Below w.heap.size w w7) := HB.out.trans (b7.mono HB.out.size)
      have M7 := Lib.hid (HM.out.below b7)
      have hns : nm.size ≤ 1048576 := by rw [← hnm, size_str]; exact hsz
      have C := Lib.hid (kstop_any id z f ch nm hnm hns w.heap.size (idsS (l.take k)) w7 M7.out)
      by_cases he : badS (idsS (l.take k)) (id, z, f, ch) = 0
      · have N := Lib.hid (chkT_next hz.out hx he)
        have T := Lib.hid (ids_take hx)
        have hil : (idsS (l.take k)).length ≤ 64 := by rw [ids_len, List.length_take]; omega
        have hid : Hid (nm.data.toList = id) := by show _ = _; rw [← hnm]
        rw [he] at C
        simp only at T
        clear hx hz HB HM b7 hnm hb he hsz
        go_wp2_with fail
        refine C.out.mono ?_
        rintro e w8 ⟨rfl, b8⟩
        have q0 := (b8.cell (p := ⟨wr.heap.size, 0, none⟩) s7).trans p0
        have B8 : Hid (Below w.heap.size w w8) := B7.out.trans (b8.mono B7.out.size)
        have M8 := Lib.hid (M7.out.below b8)
        clear b8 p0 p1 p2 p3 B7 M7 C
        go_wp2_with (at_mapUpdate; refine put_bool _ rfl _ _ _ rfl w.heap.size (idsS (l.take k)) rfl M8.out nm id hid.out (by omega) rfl rfl (by omega) ?_; intro w9 m9 g9)
        have M : Hid (MapB w9 w.heap.size (idsS (l.take (k + 1)))) := by
          show MapB _ _ _
          rw [T.out]
          exact m9
        have B : Hid (Below w.heap.size w w9) := B8.out.grown g9 B8.out.size (fun j hj => by cases hj; exact Nat.le_refl _)
        clear m9 g9 M8 B8
        go_wp2_with fail
        go_roundw
        case rel => exact ⟨k + 1, by go_num, by omega, N, M, B⟩
        case measure => simp [intOf]; omega
      · have R := Lib.hid (chkT_stop hz.out hx rfl he)
        have ne := bne_true he
        generalize badS (idsS (l.take k)) (id, z, f, ch) = y at C R ne
        clear hx hz HB HM b7 hnm hb he hsz
        go_wp2_with fail
        refine C.out.mono ?_
        rintro e w8 ⟨rfl, b8⟩
        have B8 : Hid (Below w.heap.size w w8) := B7.out.trans (b8.mono B7.out.size)
        clear b8 B7 C p0 p1 p2 p3
        go_wp2_with fail
        go_ret2
        exact ⟨ret_chk (by rw [← HQ.out, R.out]) (by rw [← HQ.out, R.out]), B8.out⟩
    · have R := Lib.hid (chkT_done hz.out (by omega))
      have d : decide (k < l.length) = false := by rw [decide_eq_false_iff_not]; exact hlt
      clear hz hlt HM
      go_wp2_with fail
      go_ret2
      exact ⟨ret_chk (by rw [← HQ.out, R.out]) (by rw [← HQ.out, R.out]), HB.out⟩
end Go.Proofs.Ytgjohpbhdgmifaa
