/-
  The code's checkCalendar, Check, checkException, CheckExceptions: what each call answers; nothing that existed before the call has changed behind it. Condition: identifiers of at most 2^20 bytes, numbers of 64 bits.
-/
import Derived.Test.YtlbockpaeacigaaYFnd
namespace Go.Proofs.Ytlbockpaeacigaa
open Go.RowKit

set_option maxRecDepth 100000 in
set_option maxHeartbeats 4000000 in
theorem kcal_any (id : List UInt8) (k : Nat → Bool) (f t : Int) (s : ByteArray) (hs : str id = s) (hsz : s.size ≤ 1048576) (b : Nat) (ls : List (List UInt8)) (w : World) (hm : MapB w b ls) :
    Calls Try.prog 30 #[.agg #[.string s, .bool (k 0), .bool (k 1), .bool (k 2), .bool (k 3), .bool (k 4), .bool (k 5), .bool (k 6), .int .i64 f, .int .i64 t], .map (some b)] w fun e w' => e = .returned (.int .i64 (badC ls (id, k, f, t))) ∧ Below w.heap.size w w' := by
  have hid : s.data.toList = id := by rw [← hs]
  obtain ⟨w7, hw7⟩ : ∃ W, w.alloc (.cells #[.string s, .bool (k 0), .bool (k 1), .bool (k 2), .bool (k 3), .bool (k 4), .bool (k 5), .bool (k 6), .int .i64 f, .int .i64 t] 50 (0, 0)) = W := ⟨_, rfl⟩
  obtain ⟨b7, p0, -, -, -, -, -, -, -, p8, p9, -⟩ := box_cl hw7
  have lk := (hm.below b7).look s id hid (by omega)
  have V := Lib.hid (valid_any s (by omega) w7)
  rw [hid] at V
  have B7 := Lib.hid b7
  clear b7 hm hid hs
  cases hv : validB id with
  | false =>
    have R := Lib.hid (badC_name (seen := ls) (x := (id, k, f, t)) hv)
    rw [hv] at V
    generalize badC ls (id, k, f, t) = q at R ⊢
    clear hv
    go_enter Try.func30, Try.ntmps30
    go_wp2_with fail
    refine V.out.mono ?_
    rintro e w' ⟨rfl, rfl⟩
    go_wp2_with fail
    go_ret
    exact ⟨ret_int R.out.symm, B7.out⟩
  | true =>
    rw [hv] at V
    by_cases hd : id ∈ ls
    · have R := Lib.hid (badC_twice (x := (id, k, f, t)) hv hd)
      rw [decide_eq_true hd] at lk
      generalize badC ls (id, k, f, t) = q at R ⊢
      clear hv hd
      go_enter Try.func30, Try.ntmps30
      go_wp2_with fail
      refine V.out.mono ?_
      rintro e w' ⟨rfl, rfl⟩
      go_wp2_with fail
      go_ret
      exact ⟨ret_int R.out.symm, B7.out⟩
    · rw [decide_eq_false hd] at lk
      have RF := Lib.hid (fun hf => badC_date (x := (id, k, f, t)) hv hd hf)
      have RN := Lib.hid (fun hf => badC_none (x := (id, k, f, t)) hv hd hf)
      generalize badC ls (id, k, f, t) = q at RF RN ⊢
      simp only at RF RN
      have VF := Lib.hid (fun W => dvalid_any f W)
      have VT := Lib.hid (fun W => dvalid_any t W)
      clear hv hd
      by_cases h1 : dayP f
      case neg =>
        have R := Lib.hid (RF.out fun h => h1 h.1)
        rw [decide_eq_false h1] at VF
        clear RF RN h1 VT
        go_enter Try.func30, Try.ntmps30
        go_wp2_with fail
        refine V.out.mono ?_
        rintro e w' ⟨rfl, rfl⟩
        go_wp2_with fail
        refine (VF.out _).mono ?_
        rintro e w' ⟨rfl, rfl⟩
        go_wp2_with fail
        go_ret
        exact ⟨ret_int R.out.symm, B7.out⟩
      rw [decide_eq_true h1] at VF
      by_cases h2 : dayP t
      case neg =>
        have R := Lib.hid (RF.out fun h => h2 h.2.1)
        rw [decide_eq_false h2] at VT
        clear RF RN h1 h2
        go_enter Try.func30, Try.ntmps30
        go_wp2_with fail
        refine V.out.mono ?_
        rintro e w' ⟨rfl, rfl⟩
        go_wp2_with fail
        refine (VF.out _).mono ?_
        rintro e w' ⟨rfl, rfl⟩
        go_wp2_with fail
        refine (VT.out _).mono ?_
        rintro e w' ⟨rfl, rfl⟩
        go_wp2_with fail
        go_ret
        exact ⟨ret_int R.out.symm, B7.out⟩
      rw [decide_eq_true h2] at VT
      by_cases h3 : t < f
      case pos =>
        have R := Lib.hid (RF.out fun h => by have := h.2.2; omega)
        clear RF RN h1 h2
        go_enter Try.func30, Try.ntmps30
        go_wp2_with fail
        refine V.out.mono ?_
        rintro e w' ⟨rfl, rfl⟩
        go_wp2_with fail
        refine (VF.out _).mono ?_
        rintro e w' ⟨rfl, rfl⟩
        go_wp2_with fail
        refine (VT.out _).mono ?_
        rintro e w' ⟨rfl, rfl⟩
        go_wp2_with fail
        go_ret
        exact ⟨ret_int R.out.symm, B7.out⟩
      have R := Lib.hid (RN.out ⟨h1, h2, by omega⟩)
      have d3 : decide (t < f) = false := decide_eq_false h3
      clear RF RN h1 h2 h3
      go_enter Try.func30, Try.ntmps30
      go_wp2_with fail
      refine V.out.mono ?_
      rintro e w' ⟨rfl, rfl⟩
      go_wp2_with fail
      refine (VF.out _).mono ?_
      rintro e w' ⟨rfl, rfl⟩
      go_wp2_with fail
      refine (VT.out _).mono ?_
      rintro e w' ⟨rfl, rfl⟩
      go_wp2_with fail
      go_ret
      exact ⟨ret_int R.out.symm, B7.out⟩
set_option maxRecDepth 100000 in
set_option maxHeartbeats 4000000 in
theorem kcheck_any (v : Value) (l : List Cl) (hl : l.length ≤ 9223372036854775807) (hs : ∀ (j : Nat) x, l[j]? = some x → x.1.length ≤ 1048576) (w : World) (h : LstC w v l) : Calls Try.prog 13 #[v] w fun e w' => e = .returned (.tuple #[.int .i64 ((chkC l).1), .int .i64 ((chkC l).2)]) ∧ Below w.heap.size w w' := by
  have H := Lib.hid h
  have HS := Lib.hid hs
  clear hs
  obtain ⟨A, c, rfl, -, -, -⟩ := h
  by_cases h64 : 64 < l.length
  · have R := Lib.hid (chkC_many h64)
    have g : (64 : Int) < (l.length : Int) := by omega
    generalize chkC l = q at R ⊢
    clear h64
    go_enter Try.func13, Try.ntmps13
    go_wp2_with fail
    go_ret2
    exact ⟨ret_chk (by rw [R.out]) (by rw [R.out]), Below.refl _ _⟩
  have g : decide ((64 : Int) < (l.length : Int)) = false := by rw [decide_eq_false_iff_not]; omega
  have ST := Lib.hid (chkC_start (l := l) (by omega))
  have h64' : l.length ≤ 64 := by omega
  have hmm := @run_makeMap Try.prog
  generalize chkC l = q at ST ⊢
  clear h64
  go_enter Try.func13, Try.ntmps13
  go_wp2_with fail
  go_loopw [14] (fun i wr => ∃ k : Nat, i = .int .i64 k ∧ k ≤ l.length ∧ Hid (q = fbF badC idC ((l.take k).map idC) k (l.drop k)) ∧ Hid (MapB wr w.heap.size ((l.take k).map idC)) ∧ Hid (Below w.heap.size w wr)) (fun i _ => l.length - (intOf i).toNat)
  case atStart => exact ⟨0, rfl, Nat.zero_le _, ST, Lib.hid (MapB.made w), Lib.hid ((Below.refl _ _).alloc (Nat.le_refl _) _)⟩
  case round =>
    clear g ST hmm
    obtain ⟨k, rfl, hk, hz, HM, HB⟩ := hrel
    by_cases hlt : k < l.length
    · obtain ⟨⟨id, kw, f, t⟩, hx⟩ := at_lt hlt
      have hsz := HS.out k _ hx
      obtain ⟨nm, hnm⟩ : ∃ nm, str id = nm := ⟨_, rfl⟩
      obtain ⟨b, o, rfl, hb, r0, mk, r8, r9⟩ := ten_at (H.out.below HB.out) hx hnm
      have k0 : wr.cell? ⟨b, o + k * 10 + 1, none⟩ = some (.bool (kw 0)) := mk 0 (by omega)
      have k1 : wr.cell? ⟨b, o + k * 10 + 2, none⟩ = some (.bool (kw 1)) := mk 1 (by omega)
      have k2 : wr.cell? ⟨b, o + k * 10 + 3, none⟩ = some (.bool (kw 2)) := mk 2 (by omega)
      have k3 : wr.cell? ⟨b, o + k * 10 + 4, none⟩ = some (.bool (kw 3)) := mk 3 (by omega)
      have k4 : wr.cell? ⟨b, o + k * 10 + 5, none⟩ = some (.bool (kw 4)) := mk 4 (by omega)
      have k5 : wr.cell? ⟨b, o + k * 10 + 6, none⟩ = some (.bool (kw 5)) := mk 5 (by omega)
      have k6 : wr.cell? ⟨b, o + k * 10 + 7, none⟩ = some (.bool (kw 6)) := mk 6 (by omega)
      have gk : (k : Int) < (l.length : Int) := by omega
      obtain ⟨w7, hw7⟩ : ∃ W, wr.alloc (.cells #[.string nm, .bool (kw 0), .bool (kw 1), .bool (kw 2), .bool (kw 3), .bool (kw 4), .bool (kw 5), .bool (kw 6), .int .i64 f, .int .i64 t] 50 (0, 0)) = W := ⟨_, rfl⟩
      obtain ⟨b7, p0, p1, p2, p3, p4, p5, p6, p7, p8, p9, s7⟩ := box_cl hw7
      have B7 : Hid (Below w.heap.size w w7) := HB.out.trans (b7.mono HB.out.size)
      have M7 := Lib.hid (HM.out.below b7)
      have hns : nm.size ≤ 1048576 := by rw [← hnm, size_str]; exact hsz
      have C := Lib.hid (kcal_any id kw f t nm hnm hns w.heap.size ((l.take k).map idC) w7 M7.out)
      by_cases he : badC ((l.take k).map idC) (id, kw, f, t) = 0
      · have N := Lib.hid (fb_next hz.out hx he)
        have T := Lib.hid (key_take (key := idC) hx)
        have hil : Hid (((l.take k).map idC).length ≤ 64) := by show _ ≤ _; rw [List.length_map, List.length_take]; omega
        have hid : Hid (nm.data.toList = id) := by show _ = _; rw [← hnm]
        rw [he] at C
        clear hx hz HB HM b7 hnm hb he hsz mk
        go_wp2_with fail
        refine C.out.mono ?_
        rintro e w8 ⟨rfl, b8⟩
        have q0 := (b8.cell (p := ⟨wr.heap.size, 0, none⟩) s7).trans p0
        have B8 : Hid (Below w.heap.size w w8) := B7.out.trans (b8.mono B7.out.size)
        have M8 := Lib.hid (M7.out.below b8)
        clear b8 p0 p1 p2 p3 p4 p5 p6 p7 p8 p9 B7 M7 C
        go_wp2_with (at_mapUpdate; refine put_bool _ rfl _ _ _ rfl w.heap.size ((l.take k).map idC) rfl M8.out nm id hid.out (by omega) rfl rfl (by have := hil.out; omega) ?_; intro w9 m9 g9)
        have M : Hid (MapB w9 w.heap.size ((l.take (k + 1)).map idC)) := by
          show MapB _ _ _
          rw [T.out]
          exact m9
        have B : Hid (Below w.heap.size w w9) := B8.out.grown g9 B8.out.size (fun j hj => by cases hj; exact Nat.le_refl _)
        clear m9 g9 M8 B8
        go_wp2_with fail
        go_roundw
        case rel => exact ⟨k + 1, by go_num, by omega, N, M, B⟩
        case measure => simp [intOf]; omega
      · have R := Lib.hid (fb_stop hz.out hx rfl he)
        have ne := bne_true he
        generalize badC ((l.take k).map idC) (id, kw, f, t) = y at C R ne
        clear hx hz HB HM b7 hnm hb he hsz mk
        go_wp2_with fail
        refine C.out.mono ?_
        rintro e w8 ⟨rfl, b8⟩
        have B8 : Hid (Below w.heap.size w w8) := B7.out.trans (b8.mono B7.out.size)
        clear b8 B7 C p0 p1 p2 p3 p4 p5 p6 p7 p8 p9
        go_wp2_with fail
        go_ret2
        exact ⟨ret_chk (by rw [R.out]) (by rw [R.out]), B8.out⟩
    · have R := Lib.hid (fb_done hz.out (by omega))
      have d : decide (k < l.length) = false := by rw [decide_eq_false_iff_not]; exact hlt
      clear hz hlt HM
      go_wp2_with fail
      go_ret2
      exact ⟨ret_chk (by rw [R.out]) (by rw [R.out]), HB.out⟩
end Go.Proofs.Ytlbockpaeacigaa
