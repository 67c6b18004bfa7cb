/-
  The code's checkException, CheckExceptions: what each call answers; nothing that existed before the call has changed behind it. Condition: numbers of 64 bits.
-/
import Derived.Test.YtlbockpaeacigaaYFnd
namespace Go.Proofs.Ytlbockpaeacigaa
open Go.RowKit

set_option maxRecDepth 100000 in
set_option maxHeartbeats 4000000 in
theorem kexc_any (k d : Int) (f : Bool) (n : Int) (hp : Pl64 (k, d)) (b : Nat) (ls : List (Int × Int)) (w : World) (hm : MapP w b ls) :
    Calls Try.prog 33 #[.agg #[.int .i64 k, .int .i64 d, .bool f], .int .i64 n, .map (some b)] w fun e w' => e = .returned (.int .i64 (badX n ls (k, d, f))) ∧ Below w.heap.size w w' := by
  obtain ⟨w7, hw7⟩ : ∃ W, w.alloc (.cells #[.int .i64 k, .int .i64 d, .bool f] 53 (0, 0)) = W := ⟨_, rfl⟩
  obtain ⟨b7, p0, p1, p2, -⟩ := box_ex hw7
  have hm := Lib.hid (hm.below b7)
  have P := Lib.hid (place_any k d f w7)
  have VD := Lib.hid (fun W => dvalid_any d W)
  have B7 := Lib.hid b7
  have RR := Lib.hid (fun h => badX_ref (n := n) (seen := ls) (e := (k, d, f)) h)
  have RD := Lib.hid (fun h h2 => badX_date (n := n) (seen := ls) (e := (k, d, f)) h h2)
  have RT := Lib.hid (fun h h2 h3 => badX_twice (n := n) (seen := ls) (e := (k, d, f)) h h2 h3)
  have RN := Lib.hid (fun h h2 h3 => badX_none (n := n) (seen := ls) (e := (k, d, f)) h h2 h3)
  generalize badX n ls (k, d, f) = q at RR RD RT RN ⊢
  simp only at RR RD RT RN
  clear b7
  by_cases h1 : k < 0
  · have R := Lib.hid (RR.out (.inl h1))
    clear RR RD RT RN P VD hm
    go_enter Try.func33, Try.ntmps33
    go_wp2_with fail
    go_ret
    exact ⟨ret_int R.out.symm, B7.out⟩
  have d1 : decide (k < 0) = false := decide_eq_false h1
  by_cases h2 : n ≤ k
  · have R := Lib.hid (RR.out (.inr h2))
    clear RR RD RT RN P VD hm h1
    go_enter Try.func33, Try.ntmps33
    go_wp2_with fail
    go_ret
    exact ⟨ret_int R.out.symm, B7.out⟩
  have d2 : decide (n ≤ k) = false := decide_eq_false h2
  have hn : ¬ (k < 0 ∨ n ≤ k) := by omega
  by_cases h3 : dayP d
  case neg =>
    have R := Lib.hid (RD.out hn h3)
    rw [decide_eq_false h3] at VD
    clear RR RD RT RN P hm h1 h2 h3 hn
    go_enter Try.func33, Try.ntmps33
    go_wp2_with fail
    refine (VD.out _).mono ?_
    rintro e w' ⟨rfl, rfl⟩
    go_wp2_with fail
    go_ret
    exact ⟨ret_int R.out.symm, B7.out⟩
  rw [decide_eq_true h3] at VD
  by_cases h4 : (k, d) ∈ ls
  · have R := Lib.hid (RT.out hn h3 h4)
    have LD := decide_eq_true h4
    clear RR RD RT RN h1 h2 h3 hn h4
    go_enter Try.func33, Try.ntmps33
    go_wp2_with fail
    refine (VD.out _).mono ?_
    rintro e w' ⟨rfl, rfl⟩
    go_wp2_with fail
    refine P.out.mono ?_
    rintro e w8 ⟨rfl, b8⟩
    have lk := (hm.out.below b8).look (k, d) hp
    simp only at lk
    rw [LD] at lk
    have B7 := Lib.hid (B7.out.trans (b8.mono B7.out.size))
    clear b8 P hm
    go_wp2_with fail
    go_ret
    exact ⟨ret_int R.out.symm, B7.out⟩
  · have R := Lib.hid (RN.out hn h3 h4)
    have LD := decide_eq_false h4
    clear RR RD RT RN h1 h2 h3 hn h4
    go_enter Try.func33, Try.ntmps33
    go_wp2_with fail
    refine (VD.out _).mono ?_
    rintro e w' ⟨rfl, rfl⟩
    go_wp2_with fail
    refine P.out.mono ?_
    rintro e w8 ⟨rfl, b8⟩
    have lk := (hm.out.below b8).look (k, d) hp
    simp only at lk
    rw [LD] at lk
    have B7 := Lib.hid (B7.out.trans (b8.mono B7.out.size))
    clear b8 P hm
    go_wp2_with fail
    go_ret
    exact ⟨ret_int R.out.symm, B7.out⟩
set_option maxRecDepth 100000 in
set_option maxHeartbeats 4000000 in
theorem kcx_any (v : Value) (l : List Ex) (n : Int) (hl : l.length ≤ 9223372036854775807) (hs : ∀ (j : Nat) x, l[j]? = some x → Pl64 (plX x)) (w : World) (h : LstX w v l) : Calls Try.prog 15 #[v, .int .i64 n] w fun e w' => e = .returned (.tuple #[.int .i64 ((chkX n l).1), .int .i64 ((chkX n l).2)]) ∧ Below w.heap.size w w' := by
  have H := Lib.hid h
  have HS := Lib.hid hs
  clear hs
  obtain ⟨A, c, rfl, -, -, -⟩ := h
  by_cases h64 : 256 < l.length
  · have R := Lib.hid (chkX_many (n := n) h64)
    have g : (256 : Int) < (l.length : Int) := by omega
    generalize chkX n l = q at R ⊢
    clear h64
    go_enter Try.func15, Try.ntmps15
    go_wp2_with fail
    go_ret2
    exact ⟨ret_chk (by rw [R.out]) (by rw [R.out]), Below.refl _ _⟩
  have g : decide ((256 : Int) < (l.length : Int)) = false := by rw [decide_eq_false_iff_not]; omega
  have ST := Lib.hid (chkX_start (n := n) (l := l) (by omega))
  have h64' : l.length ≤ 256 := by omega
  have hmm := @run_makeMap Try.prog
  generalize chkX n l = q at ST ⊢
  clear h64
  go_enter Try.func15, Try.ntmps15
  go_wp2_with fail
  go_loopw [16] (fun i wr => ∃ k : Nat, i = .int .i64 k ∧ k ≤ l.length ∧ Hid (q = fbF (badX n) plX ((l.take k).map plX) k (l.drop k)) ∧ Hid (MapP wr w.heap.size ((l.take k).map plX)) ∧ Hid (Below w.heap.size w wr)) (fun i _ => l.length - (intOf i).toNat)
  case atStart => exact ⟨0, rfl, Nat.zero_le _, ST, Lib.hid (MapP.made w), Lib.hid ((Below.refl _ _).alloc (Nat.le_refl _) _)⟩
  case round =>
    clear g ST hmm
    obtain ⟨k, rfl, hk, hz, HM, HB⟩ := hrel
    by_cases hlt : k < l.length
    · obtain ⟨⟨ki, di, fi⟩, hx⟩ := at_lt hlt
      have hpl : Hid (Pl64 (ki, di)) := HS.out k _ hx
      obtain ⟨b, o, rfl, hb, r0, r1, r2⟩ := three_at (H.out.below HB.out) hx
      have gk : (k : Int) < (l.length : Int) := by omega
      obtain ⟨w7, hw7⟩ : ∃ W, wr.alloc (.cells #[.int .i64 ki, .int .i64 di, .bool fi] 53 (0, 0)) = W := ⟨_, rfl⟩
      obtain ⟨b7, p0, p1, p2, s7⟩ := box_ex hw7
      have B7 : Hid (Below w.heap.size w w7) := HB.out.trans (b7.mono HB.out.size)
      have M7 := Lib.hid (HM.out.below b7)
      have C := Lib.hid (kexc_any ki di fi n hpl.out w.heap.size ((l.take k).map plX) w7 M7.out)
      by_cases he : badX n ((l.take k).map plX) (ki, di, fi) = 0
      · have N := Lib.hid (fb_next hz.out hx he)
        have T := Lib.hid (key_take (key := plX) hx)
        have hil : Hid (((l.take k).map plX).length ≤ 256) := by show _ ≤ _; rw [List.length_map, List.length_take]; omega
        rw [he] at C
        clear hx hz HB HM b7 hb he
        go_wp2_with fail
        refine C.out.mono ?_
        rintro e w8 ⟨rfl, b8⟩
        have q0 := (b8.cell (p := ⟨wr.heap.size, 0, none⟩) s7).trans p0
        have q1 := (b8.cell (p := ⟨wr.heap.size, 1, none⟩) s7).trans p1
        have q2 := (b8.cell (p := ⟨wr.heap.size, 2, none⟩) s7).trans p2
        have B8 : Hid (Below w.heap.size w w8) := B7.out.trans (b8.mono B7.out.size)
        have M8 := Lib.hid (M7.out.below b8)
        clear b8 p0 p1 p2 B7 M7 C
        go_wp2_with fail
        refine (place_any ki di fi w8).mono ?_
        rintro e w9 ⟨rfl, b9⟩
        have B9 : Hid (Below w.heap.size w w9) := B8.out.trans (b9.mono B8.out.size)
        have M9 := Lib.hid (M8.out.below b9)
        clear b9 B8 M8 q0 q1 q2
        go_wp2_with (at_mapUpdate; refine put_pl _ rfl _ _ _ rfl w.heap.size ((l.take k).map plX) rfl M9.out (ki, di) hpl.out rfl rfl (by have := hil.out; omega) ?_; intro w10 m10 g10)
        have M : Hid (MapP w10 w.heap.size ((l.take (k + 1)).map plX)) := by
          show MapP _ _ _
          rw [T.out]
          exact m10
        have B : Hid (Below w.heap.size w w10) := B9.out.grown g10 B9.out.size (fun j hj => by cases hj; exact Nat.le_refl _)
        clear m10 g10 M9 B9
        go_wp2_with fail
        go_roundw
        case rel => exact ⟨k + 1, by go_num, by omega, N, M, B⟩
        case measure => simp [intOf]; omega
      · have R := Lib.hid (fb_stop hz.out hx rfl he)
        have ne := bne_true he
        generalize badX n ((l.take k).map plX) (ki, di, fi) = y at C R ne
        clear hx hz HB HM b7 hb he
        go_wp2_with fail
        refine C.out.mono ?_
        rintro e w8 ⟨rfl, b8⟩
        have B8 : Hid (Below w.heap.size w w8) := B7.out.trans (b8.mono B7.out.size)
        clear b8 B7 C p0 p1 p2
        go_wp2_with fail
        go_ret2
        exact ⟨ret_chk (by rw [R.out]) (by rw [R.out]), B8.out⟩
    · have R := Lib.hid (fb_done hz.out (by omega))
      have d : decide (k < l.length) = false := by rw [decide_eq_false_iff_not]; exact hlt
      clear hz hlt HM
      go_wp2_with fail
      go_ret2
      exact ⟨ret_chk (by rw [R.out]) (by rw [R.out]), HB.out⟩
end Go.Proofs.Ytlbockpaeacigaa
