/-
  The laws CallMoves, CallCounts: each answers true for every input; nothing that existed before the call has changed behind it. Condition: none beyond lengths of 63 bits.
-/
import Derived.Test.YtgdlibmgmokfaaaWLaw
namespace Go.Proofs.Ytgdlibmgmokfaaa
open Go.RowKit

theorem box_pr {w w7 : World} {a b : Int} (h : w.alloc (.cells #[.int .i64 a, .int .i64 b] 40 (0, 0)) = w7) :
    Below w.heap.size w w7 ∧ w7.cell? ⟨w.heap.size, 0, none⟩ = some (.int .i64 a) ∧ w7.cell? ⟨w.heap.size, 1, none⟩ = some (.int .i64 b) ∧ w.heap.size < w7.heap.size := by
  subst h
  have c7 := heap_alloc_new w (.cells #[.int .i64 a, .int .i64 b] 40 (0, 0))
  exact ⟨(Below.refl _ _).alloc (Nat.le_refl _) _, by rw [cell_of_row _ _ 0 _ _ _ c7]; rfl, by rw [cell_of_row _ _ 1 _ _ _ c7]; rfl, by simp⟩
theorem near_of {x : Cl} (h1 : nearI x.2.1 = true) (h2 : nearI x.2.2.1 = true) : nearX x := ⟨(nearI_is h1).1, (nearI_is h1).2, (nearI_is h2).1, (nearI_is h2).2⟩
set_option maxRecDepth 100000 in
set_option maxHeartbeats 8000000 in
theorem moves_law (v : Value) (l : List Cl) (hl : l.length ≤ 9223372036854775807) (_ : OkC l) (st lo hi z : Int) (w : World) (h : LstC w v l) : Calls Try.prog 9 #[v, .agg #[.int .i64 st, .int .i64 lo, .int .i64 hi], .int .i64 z] w fun e w' => e = .returned (.bool true) ∧ Below w.heap.size w w' := by
  have E := Lib.hid (fun W => ex_any W)
  obtain ⟨w0, hw0⟩ : ∃ W, w.alloc (.cells #[.int .i64 st, .int .i64 lo, .int .i64 hi] 24 (0, 0)) = W := ⟨_, rfl⟩
  obtain ⟨b0, P⟩ := box_bd hw0
  have H := Lib.hid (h.below b0)
  have B0 := Lib.hid b0
  have HP := Lib.hid P
  obtain ⟨p0, p1, p2⟩ := P w0 (Below.refl _ _)
  obtain ⟨A, c, rfl, -, -, -⟩ := h
  clear P b0
  by_cases c1 : 100 < l.length
  · have g : (100 : Int) < (l.length : Int) := by omega
    clear hl HP H c1
    go_enter Try.func9, Try.ntmps9
    go_wp2_with fail
    refine (E.out _).mono ?_
    rintro e w1 ⟨rfl, b1⟩
    have B1 := Lib.hid (B0.out.trans (b1.mono B0.out.size))
    clear b1 E
    go_wp2_with fail
    go_ret
    exact ⟨rfl, B1.out⟩
  have g : decide ((100 : Int) < (l.length : Int)) = false := by rw [decide_eq_false_iff_not]; omega
  have hl2 : l.length ≤ 100 := by omega
  have NZ := Lib.hid (fun W => near_any z W)
  have NL := Lib.hid (fun W => near_any lo W)
  have NH := Lib.hid (fun W => near_any hi W)
  clear c1
  cases hz : nearI z with
  | false =>
    rw [hz] at NZ
    clear hl hl2 HP H NL NH hz
    go_enter Try.func9, Try.ntmps9
    go_wp2_with fail
    refine (NZ.out _).mono ?_
    rintro e w' ⟨rfl, rfl⟩
    go_wp2_with fail
    refine (E.out _).mono ?_
    rintro e w1 ⟨rfl, b1⟩
    have B1 := Lib.hid (B0.out.trans (b1.mono B0.out.size))
    clear b1 E
    go_wp2_with fail
    go_ret
    exact ⟨rfl, B1.out⟩
  | true =>
  rw [hz] at NZ
  cases hlo : nearI lo with
  | false =>
    rw [hlo] at NL
    clear hl hl2 HP H NH hz hlo
    go_enter Try.func9, Try.ntmps9
    go_wp2_with fail
    refine (NZ.out _).mono ?_
    rintro e w' ⟨rfl, rfl⟩
    go_wp2_with fail
    refine (NL.out _).mono ?_
    rintro e w' ⟨rfl, rfl⟩
    go_wp2_with fail
    refine (E.out _).mono ?_
    rintro e w1 ⟨rfl, b1⟩
    have B1 := Lib.hid (B0.out.trans (b1.mono B0.out.size))
    clear b1 E
    go_wp2_with fail
    go_ret
    exact ⟨rfl, B1.out⟩
  | true =>
  rw [hlo] at NL
  cases hhi : nearI hi with
  | false =>
    rw [hhi] at NH
    clear hl hl2 HP H hz hlo hhi
    go_enter Try.func9, Try.ntmps9
    go_wp2_with fail
    refine (NZ.out _).mono ?_
    rintro e w' ⟨rfl, rfl⟩
    go_wp2_with fail
    refine (NL.out _).mono ?_
    rintro e w' ⟨rfl, rfl⟩
    go_wp2_with fail
    refine (NH.out _).mono ?_
    rintro e w' ⟨rfl, rfl⟩
    go_wp2_with fail
    refine (E.out _).mono ?_
    rintro e w1 ⟨rfl, b1⟩
    have B1 := Lib.hid (B0.out.trans (b1.mono B0.out.size))
    clear b1 E
    go_wp2_with fail
    go_ret
    exact ⟨rfl, B1.out⟩
  | true =>
  rw [hhi] at NH
  obtain ⟨z0, z1⟩ := nearI_is hz
  obtain ⟨l0, l1⟩ := nearI_is hlo
  obtain ⟨h0, h1⟩ := nearI_is hhi
  clear hz hlo hhi
  go_enter Try.func9, Try.ntmps9
  go_wp2_with fail
  refine (NZ.out _).mono ?_
  rintro e w' ⟨rfl, rfl⟩
  go_wp2_with fail
  refine (NL.out _).mono ?_
  rintro e w' ⟨rfl, rfl⟩
  go_wp2_with fail
  refine (NH.out _).mono ?_
  rintro e w' ⟨rfl, rfl⟩
  go_wp2_with fail
  clear NZ NL NH
  go_loopw [37] (fun i wr => ∃ k : Nat, i = .int .i64 (k : Int) ∧ k ≤ l.length ∧ Hid (∀ x ∈ l.take k, nearX x) ∧ Hid (Below w0.heap.size w0 wr)) (fun i _ => l.length - (intOf i).toNat)
  case atStart => exact ⟨0, rfl, Nat.zero_le _, Lib.hid (fun x hx => absurd hx (by simp)), Lib.hid (Below.refl _ _)⟩
  case round =>
    clear g p0 p1 p2
    obtain ⟨k, rfl, hk, hn, HB⟩ := hrel
    by_cases hlt : k < l.length
    · obtain ⟨⟨s, a, d, o, u⟩, hx⟩ := at_lt hlt
      obtain ⟨b, f, rfl, hb, r0, r1, r2, r3, r4⟩ := five_at (H.out.below HB.out) hx
      have gk : (k : Int) < (l.length : Int) := by omega
      obtain ⟨w7, hw7⟩ : ∃ W, wr.alloc (.cells #[.int .i64 s, .int .i64 a, .int .i64 d, .bool o, .bool u] 47 (0, 0)) = W := ⟨_, rfl⟩
      obtain ⟨b7, t0, t1, t2, t3, t4, z7⟩ := box_cc hw7
      have B7 : Hid (Below w0.heap.size w0 w7) := HB.out.trans (b7.mono HB.out.size)
      have BW : Hid (Below w.heap.size w w7) := B0.out.trans (B7.out.mono B0.out.size)
      have NA := Lib.hid (fun W => near_any a W)
      have ND := Lib.hid (fun W => near_any d W)
      clear b7 hb
      cases ha : nearI a with
      | false =>
        rw [ha] at NA
        clear hx hn ha HB B7
        go_wp2_with fail
        refine (NA.out _).mono ?_
        rintro e w' ⟨rfl, rfl⟩
        go_wp2_with fail
        refine (E.out _).mono ?_
        rintro e w1 ⟨rfl, b1⟩
        have B1 := Lib.hid (BW.out.trans (b1.mono BW.out.size))
        clear b1 E
        go_wp2_with fail
        go_ret
        exact ⟨rfl, B1.out⟩
      | true =>
      rw [ha] at NA
      cases hd : nearI d with
      | false =>
        rw [hd] at ND
        clear hx hn ha hd HB B7
        go_wp2_with fail
        refine (NA.out _).mono ?_
        rintro e w' ⟨rfl, rfl⟩
        go_wp2_with fail
        refine (ND.out _).mono ?_
        rintro e w' ⟨rfl, rfl⟩
        go_wp2_with fail
        refine (E.out _).mono ?_
        rintro e w1 ⟨rfl, b1⟩
        have B1 := Lib.hid (BW.out.trans (b1.mono BW.out.size))
        clear b1 E
        go_wp2_with fail
        go_ret
        exact ⟨rfl, B1.out⟩
      | true =>
      rw [hd] at ND
      have N : Hid (∀ x ∈ l.take (k + 1), nearX x) := by
        intro x hm
        rw [take_at l k _ hx, List.mem_append] at hm
        rcases hm with hm | hm
        · exact hn.out x hm
        · obtain rfl := List.mem_singleton.1 hm
          exact near_of ha hd
      clear hx hn ha hd HB BW
      go_wp2_with fail
      refine (NA.out _).mono ?_
      rintro e w' ⟨rfl, rfl⟩
      go_wp2_with fail
      refine (ND.out _).mono ?_
      rintro e w' ⟨rfl, rfl⟩
      go_wp2_with fail
      go_roundw
      case rel => exact ⟨k + 1, by go_num, by omega, N, B7⟩
      case measure => simp [intOf]; omega
    · have d : decide (k < l.length) = false := by rw [decide_eq_false_iff_not]; exact hlt
      have hall : ∀ x ∈ l, nearX x := by
        have := hn.out
        rw [List.take_of_length_le (by omega)] at this
        exact this
      have HR := Lib.hid (H.out.below HB.out)
      have C1 := Lib.hid (kshift_any _ l (by omega) z wr HR.out)
      have C2 := Lib.hid (fun W hW => kcheck_any (.slice A l.length c) l hl st lo hi W hW)
      have hsl : (shC z l).length ≤ 100 := by rw [shC_len]; exact hl2
      have C3 := Lib.hid (fun u W hW => kcheck_any u (shC z l) (by omega) st (lo + z) (hi + z) W hW)
      rw [chk_shift z0 z1 hall] at C3
      have C4 := Lib.hid (fun u W hW => kshift_any u (shC z l) (by omega) (-z) W hW)
      rw [sh_back z0 z1 hall] at C4
      have C5 := Lib.hid (fun (u v : Value) (W : World) h1 h2 => Calls.below (requal_any u v l l (by omega) W h1 h2))
      rw [decide_eq_true rfl] at C5
      generalize (chkC st lo hi l).1 = p at C2 C3
      generalize (chkC st lo hi l).2 = q at C2 C3
      have t1 := beq_true (a := p) rfl
      have t2 := beq_true (a := q) rfl
      have BW : Hid (Below w.heap.size w wr) := B0.out.trans (HB.out.mono B0.out.size)
      clear hlt hn hall hsl
      generalize shC z l = s at C1 C3 C4
      go_wp2_with fail
      refine C1.out.mono ?_
      rintro e w1 ⟨v1, rfl, o1, b1⟩
      obtain ⟨p0, p1, p2⟩ := HP.out w1 (HB.out.trans (b1.mono HB.out.size))
      have HB1 : Hid (Below w0.heap.size w0 w1) := HB.out.trans (b1.mono HB.out.size)
      have B1 : Hid (Below w.heap.size w w1) := BW.out.trans (b1.mono BW.out.size)
      have O1 := Lib.hid (OwnG.lst o1)
      have H1 := Lib.hid (HR.out.below b1)
      clear b1 o1 C1 HR HB BW
      go_wp2_with fail
      refine (C2.out w1 H1.out).mono ?_
      rintro e w2 ⟨rfl, b2⟩
      clear p0 p1 p2
      obtain ⟨p0, p1, p2⟩ := HP.out w2 (HB1.out.trans (b2.mono HB1.out.size))
      have B2 : Hid (Below w.heap.size w w2) := B1.out.trans (b2.mono B1.out.size)
      have O2 := Lib.hid (O1.out.below b2)
      have H2 := Lib.hid (H1.out.below b2)
      clear b2 C2 O1 H1 B1 HB1
      go_wp2_with fail
      refine (C3.out _ w2 O2.out).mono ?_
      rintro e w3 ⟨rfl, b3⟩
      have B3 : Hid (Below w.heap.size w w3) := B2.out.trans (b3.mono B2.out.size)
      have O3 := Lib.hid (O2.out.below b3)
      have H3 := Lib.hid (H2.out.below b3)
      clear b3 C3 O2 H2 B2 p0 p1 p2
      go_wp2_with fail
      refine (C4.out _ w3 O3.out).mono ?_
      rintro e w4 ⟨v4, rfl, o4, b4⟩
      have B4 : Hid (Below w.heap.size w w4) := B3.out.trans (b4.mono B3.out.size)
      have O4 := Lib.hid (OwnG.lst o4)
      have H4 := Lib.hid (H3.out.below b4)
      clear b4 o4 C4 O3 H3 B3
      go_wp2_with fail
      refine (C5.out _ _ w4 O4.out H4.out).mono ?_
      rintro e w5 ⟨rfl, b5⟩
      have B5 : Hid (Below w.heap.size w w5) := B4.out.trans (b5.mono B4.out.size)
      clear b5 C5 O4 H4 B4
      go_wp2_with fail
      refine (E.out _).mono ?_
      rintro e w6 ⟨rfl, b6⟩
      have B6 := Lib.hid (B5.out.trans (b6.mono B5.out.size))
      clear b6 E
      go_wp2_with fail
      go_ret
      exact ⟨rfl, B6.out⟩
set_option maxRecDepth 100000 in
set_option maxHeartbeats 8000000 in
theorem counts_law (v : Value) (l : List Cl) (hl : l.length ≤ 9223372036854775807) (_ : OkC l) (st lo hi : Int) (w : World) (h : LstC w v l) : Calls Try.prog 10 #[v, .agg #[.int .i64 st, .int .i64 lo, .int .i64 hi]] w fun e w' => e = .returned (.bool true) ∧ Below w.heap.size w w' := by
  have E := Lib.hid (fun W => ex_any W)
  obtain ⟨w0, hw0⟩ : ∃ W, w.alloc (.cells #[.int .i64 st, .int .i64 lo, .int .i64 hi] 24 (0, 0)) = W := ⟨_, rfl⟩
  obtain ⟨b0, P⟩ := box_bd hw0
  have H := Lib.hid (h.below b0)
  have B0 := Lib.hid b0
  have HP := Lib.hid P
  obtain ⟨A, c, rfl, -, -, -⟩ := h
  clear P b0
  by_cases c1 : 60 < l.length
  · have g : (60 : Int) < (l.length : Int) := by omega
    clear hl HP H c1
    go_enter Try.func10, Try.ntmps10
    go_wp2_with fail
    refine (E.out _).mono ?_
    rintro e w1 ⟨rfl, b1⟩
    have B1 := Lib.hid (B0.out.trans (b1.mono B0.out.size))
    clear b1 E
    go_wp2_with fail
    go_ret
    exact ⟨rfl, B1.out⟩
  have g : decide ((60 : Int) < (l.length : Int)) = false := by rw [decide_eq_false_iff_not]; omega
  have hl2 : l.length ≤ 60 := by omega
  have hsm : (prsC l).length ≤ 3600 := Nat.le_trans (prs_le l) (Nat.mul_le_mul hl2 hl2)
  have C := Lib.hid (rides_any _ l hl2 4000 w0 H.out)
  rw [List.take_of_length_le (by omega), show ((4000 : Nat) : Int) = 4000 by rfl] at C
  have MEM := Lib.hid (fun (p : Pr) (hp : p ∈ prsC l) => prs_mem hp)
  have NXT := Lib.hid (fun (j : Nat) (p q : Pr) => prs_next (l := l) (j := j) (p := p) (q := q))
  clear c1 hl2
  go_enter Try.func10, Try.ntmps10
  go_wp2_with fail
  refine C.out.mono ?_
  rintro e w1 ⟨v1, rfl, o1, b1⟩
  have HB1 := Lib.hid b1
  have B1 : Hid (Below w.heap.size w w1) := B0.out.trans (b1.mono B0.out.size)
  have H1 := Lib.hid (H.out.below b1)
  have L1 := o1.lst
  obtain ⟨A1, d1, rfl, -, -, -⟩ := id L1
  have O1 := Lib.hid L1
  clear b1 o1 C H L1 B0 g
  go_wp2_with fail
  go_loop [27, 7] (fun i n => ∃ q m : Nat, i = .int .i64 (q : Int) ∧ n = .int .i64 (m : Int) ∧ q ≤ l.length ∧ m ≤ 3600 ∧ Hid (m + (allR l q).length = (prsC l).length)) (fun i _ => l.length - (intOf i).toNat)
  case atStart => exact ⟨0, 0, rfl, rfl, Nat.zero_le _, Nat.zero_le _, Lib.hid (Nat.zero_add _)⟩
  case round =>
    obtain ⟨q, m, rfl, rfl, hq, hm, hc⟩ := hrel
    by_cases hlt : q < l.length
    · have gq : (q : Int) < (l.length : Int) := by omega
      have N := Lib.hid (cnt_start m hc.out hlt)
      clear hc
      go_wp2_with fail
      go_loop [32, 7] (fun i n => ∃ k m : Nat, i = .int .i64 (k : Int) ∧ n = .int .i64 (m : Int) ∧ k ≤ l.length ∧ m ≤ 3600 ∧ Hid (m + ((rowR l q k).length + (allR l (q + 1)).length) = (prsC l).length)) (fun i _ => l.length - (intOf i).toNat)
      case atStart => exact ⟨0, m, rfl, rfl, Nat.zero_le _, hm, N⟩
      case round =>
        clear N hm
        obtain ⟨k, m, rfl, rfl, hk, hm, hc⟩ := hrel
        by_cases hkl : k < l.length
        · have gk : (k : Int) < (l.length : Int) := by omega
          have M := Lib.hid (krid_any (.slice A l.length c) l (q : Int) (k : Int) w1 H1.out)
          cases hr : rdB l (q : Int) (k : Int) with
          | false =>
            rw [hr] at M
            have N := Lib.hid (cnt_miss hc.out hkl hr)
            clear hc hr
            go_wp2_with fail
            refine M.out.mono ?_
            rintro e w' ⟨rfl, rfl⟩
            go_wp2_with fail
            go_round
            case rel => exact ⟨k + 1, m, by go_num, rfl, by omega, hm, N⟩
            case measure => simp [intOf]; omega
          | true =>
            rw [hr] at M
            have N := cnt_hit hc.out hkl hr
            have hm2 : m + 1 ≤ 3600 := by omega
            have N := Lib.hid N
            clear hc hr
            go_wp2_with fail
            refine M.out.mono ?_
            rintro e w' ⟨rfl, rfl⟩
            go_wp2_with fail
            go_round
            case rel => exact ⟨k + 1, m + 1, by go_num, by go_num, by omega, hm2, N⟩
            case measure => simp [intOf]; omega
        · have d : decide (k < l.length) = false := by rw [decide_eq_false_iff_not]; exact hkl
          have N := Lib.hid (cnt_rowend hc.out (by omega))
          clear hc hkl
          go_wp2_with fail
          go_round
          case rel => exact ⟨q + 1, m, by go_num, rfl, by omega, hm, N⟩
          case measure => simp [intOf]; omega
    · have d : decide (q < l.length) = false := by rw [decide_eq_false_iff_not]; exact hlt
      have hcnt := cnt_end hc.out (by omega)
      have CK := Lib.hid (kcheck_any (.slice A l.length c) l hl st lo hi w1 H1.out)
      have ASC := Lib.hid (fun (h0 : (chkC st lo hi l).2 = 0) (i k : Nat) (y z : Cl) (hik : i < k) (h1 : l[i]? = some y) (h2 : l[k]? = some z) => chk_asc h0 hik h1 h2)
      generalize (chkC st lo hi l).1 = r0 at CK
      generalize (chkC st lo hi l).2 = er at CK ASC
      obtain ⟨p0, p1, p2⟩ := HP.out w1 HB1.out
      generalize prsC l = ps at *
      obtain ⟨N, hN⟩ : ∃ N, ps.length = N := ⟨_, rfl⟩
      have tn := beq_true (a := (N : Int)) rfl
      rw [hN] at hcnt hsm
      simp only [hN]
      subst hcnt
      have HN := Lib.hid hN
      clear hc hlt hN hm
      go_wp2_with fail
      refine CK.out.mono ?_
      rintro e w2 ⟨rfl, b2⟩
      have B2 : Hid (Below w.heap.size w w2) := B1.out.trans (b2.mono B1.out.size)
      have H2 := Lib.hid (H1.out.below b2)
      have O2 := Lib.hid (O1.out.below b2)
      clear b2 CK H1 O1 B1 HP HB1 p0 p1 p2
      go_wp2_with fail
      clear tn
      go_loopw [56] (fun i wr => ∃ j : Nat, i = .int .i64 (j : Int) ∧ j ≤ m ∧ Hid (Below w2.heap.size w2 wr)) (fun i _ => m - (intOf i).toNat)
      case atStart => exact ⟨0, rfl, Nat.zero_le _, Lib.hid (Below.refl _ _)⟩
      case round =>
        obtain ⟨j, rfl, hj, HB⟩ := hrel
        by_cases hjm : j < m
        · have hNN := HN.out
          obtain ⟨⟨x, y⟩, hx⟩ := at_lt (l := ps) (show j < ps.length by omega)
          obtain ⟨b1, f1, rfl, hb1, s0, s1⟩ := two_at (O2.out.below HB.out) hx
          have gj : (j : Int) < (m : Int) := by omega
          have hrd : rdB l (x : Int) (y : Int) = true := MEM.out (x, y) (List.mem_of_getElem? hx)
          obtain ⟨-, g1, g2⟩ := rdB_is hrd
          have hxy : x < y := by omega
          have hyl : y < l.length := by omega
          obtain ⟨⟨sx, ax, dx, ox, ux⟩, hlx⟩ := at_lt (show x < l.length by omega)
          obtain ⟨⟨sy, ay, dy, oy, uy⟩, hly⟩ := at_lt hyl
          obtain ⟨w7, hw7⟩ : ∃ W, wr.alloc (.cells #[.int .i64 (x : Int), .int .i64 (y : Int)] 40 (0, 0)) = W := ⟨_, rfl⟩
          obtain ⟨b7, t0, t1, z7⟩ := box_pr hw7
          have B7 : Hid (Below w2.heap.size w2 w7) := HB.out.trans (b7.mono HB.out.size)
          have M := Lib.hid (krid_any (.slice A l.length c) l (x : Int) (y : Int) w7 (H2.out.below B7.out))
          rw [hrd] at M
          obtain ⟨b, f, rfl, hb, -, -, r2, -, -⟩ := five_at (H2.out.below B7.out) hlx
          obtain ⟨b', f', hA, -, -, q1, -, -, -⟩ := five_at (H2.out.below B7.out) hly
          cases hA
          have gx : (x : Int) < (l.length : Int) := by omega
          have e0 : decide ((x : Int) < 0) = false := decide_eq_false (by omega)
          have e1 : decide ((l.length : Int) ≤ (y : Int)) = false := decide_eq_false (by omega)
          have e1' : decide (l.length ≤ y) = false := decide_eq_false (by omega)
          have e2 : decide ((y : Int) ≤ (x : Int)) = false := decide_eq_false (by omega)
          have e2' : decide (y ≤ x) = false := decide_eq_false (by omega)
          have hdx : er = 0 → decide (ay < dx) = false := fun h0 => decide_eq_false (by have := ASC.out h0 x y _ _ hxy hlx hly; simp only at this; omega)
          clear hrd hlx hly b7 hb hb1 HB
          by_cases j0 : j = 0
          · have k0 : decide ((0 : Int) < (j : Int)) = false := decide_eq_false (by omega)
            have k0' : decide (0 < j) = false := decide_eq_false (by omega)
            by_cases h0 : er = 0
            · have t2 := beq_true h0
              have t3 := hdx h0
              clear h0
              clear hdx hx j0
              go_wp2_with fail
              refine M.out.mono ?_
              rintro e w' ⟨rfl, rfl⟩
              go_wp2_with fail
              go_quiet (fail)
              go_wp2_with fail
              go_quiet (fail)
              go_wp2_with fail
              go_roundw
              case rel => exact ⟨j + 1, by go_num, by omega, Lib.hid (below_drewN B7.out _)⟩
              case measure => simp [intOf]; omega
            · have t2 := beq_false h0
              clear h0
              clear hdx hx j0
              go_wp2_with fail
              refine M.out.mono ?_
              rintro e w' ⟨rfl, rfl⟩
              go_wp2_with fail
              go_quiet (fail)
              go_wp2_with fail
              go_quiet (fail)
              go_wp2_with fail
              go_roundw
              case rel => exact ⟨j + 1, by go_num, by omega, Lib.hid (below_drewN B7.out _)⟩
              case measure => simp [intOf]; omega
          · obtain ⟨n, hn⟩ : ∃ n, j = n + 1 := ⟨j - 1, by omega⟩
            obtain ⟨⟨x1, y1⟩, hx1⟩ := at_lt (l := ps) (show n < ps.length by omega)
            obtain ⟨b2, f2, hA, hb2, v0, v1⟩ := two_at (O2.out.below B7.out) hx1
            cases hA
            have k0 : (0 : Int) < (j : Int) := by omega
            have k0' : 0 < j := by omega
            have k1 : (j : Int) - 1 = (n : Int) := by omega
            have k2 : (n : Int) < (m : Int) := by omega
            have hord := NXT.out n (x1, y1) (x, y) hx1 (by rw [← hn]; exact hx)
            simp only at hord
            clear hx hx1 hb2 hn j0 hNN
            rcases hord with ho | ⟨ho, ho2⟩
            · have u1 : decide ((x : Int) < (x1 : Int)) = false := decide_eq_false (by omega)
              have u1' : decide (x < x1) = false := decide_eq_false (by omega)
              have u2 : ((x1 : Int) == (x : Int)) = false := beq_false (by omega)
              have u2' : (x1 == x) = false := by simp; omega
              clear ho
              by_cases h0 : er = 0
              · have t2 := beq_true h0
                have t3 := hdx h0
                clear h0
                clear hdx
                go_wp2_with fail
                refine M.out.mono ?_
                rintro e w' ⟨rfl, rfl⟩
                go_wp2_with fail
                go_quiet (fail)
                go_wp2_with fail
                go_quiet (fail)
                go_wp2_with fail
                go_roundw
                case rel => exact ⟨j + 1, by go_num, by omega, Lib.hid (below_drewN B7.out _)⟩
                case measure => simp [intOf]; omega
              · have t2 := beq_false h0
                clear h0
                clear hdx
                go_wp2_with fail
                refine M.out.mono ?_
                rintro e w' ⟨rfl, rfl⟩
                go_wp2_with fail
                go_quiet (fail)
                go_wp2_with fail
                go_quiet (fail)
                go_wp2_with fail
                go_roundw
                case rel => exact ⟨j + 1, by go_num, by omega, Lib.hid (below_drewN B7.out _)⟩
                case measure => simp [intOf]; omega
            · subst ho
              have u3 : decide ((y : Int) ≤ (y1 : Int)) = false := decide_eq_false (by omega)
              have u3' : decide (y ≤ y1) = false := decide_eq_false (by omega)
              clear ho2
              by_cases h0 : er = 0
              · have t2 := beq_true h0
                have t3 := hdx h0
                clear h0
                clear hdx
                go_wp2_with fail
                refine M.out.mono ?_
                rintro e w' ⟨rfl, rfl⟩
                go_wp2_with fail
                go_quiet (fail)
                go_wp2_with fail
                go_quiet (fail)
                go_wp2_with fail
                go_roundw
                case rel => exact ⟨j + 1, by go_num, by omega, Lib.hid (below_drewN B7.out _)⟩
                case measure => simp [intOf]; omega
              · have t2 := beq_false h0
                clear h0
                clear hdx
                go_wp2_with fail
                refine M.out.mono ?_
                rintro e w' ⟨rfl, rfl⟩
                go_wp2_with fail
                go_quiet (fail)
                go_wp2_with fail
                go_quiet (fail)
                go_wp2_with fail
                go_roundw
                case rel => exact ⟨j + 1, by go_num, by omega, Lib.hid (below_drewN B7.out _)⟩
                case measure => simp [intOf]; omega
        · have dj : decide (j < m) = false := by rw [decide_eq_false_iff_not]; exact hjm
          have tn := beq_true (a := (m : Int)) rfl
          have B3 : Hid (Below w.heap.size w wr) := B2.out.trans (HB.out.mono B2.out.size)
          clear hjm HB
          go_wp2_with fail
          refine (E.out _).mono ?_
          rintro e w4 ⟨rfl, b4⟩
          have B4 := Lib.hid (B3.out.trans (b4.mono B3.out.size))
          clear b4 E
          go_wp2_with fail
          go_ret
          exact ⟨rfl, B4.out⟩
end Go.Proofs.Ytgdlibmgmokfaaa
