/-
  The law CalendarRanges: it answers true for every input; nothing that existed before the call has changed behind it. Condition: none beyond lengths of 63 bits.
-/
import Derived.Test.YtlbockpaeacigaaYLaw
namespace Go.Proofs.Ytlbockpaeacigaa
open Go.RowKit

/-- A span in a box. -/
theorem box_sp {w w7 : World} {k d : Int} (h : w.alloc (.cells #[.int .i64 k, .int .i64 d] 41 (0, 0)) = w7) :
    Below w.heap.size w w7 ∧ w7.cell? ⟨w.heap.size, 0, none⟩ = some (.int .i64 k) ∧ w7.cell? ⟨w.heap.size, 1, none⟩ = some (.int .i64 d) ∧ w.heap.size < w7.heap.size := by
  subst h
  have c7 := heap_alloc_new w (.cells #[.int .i64 k, .int .i64 d] 41 (0, 0))
  exact ⟨(Below.refl _ _).alloc (Nat.le_refl _) _, by rw [cell_of_row _ _ 0 _ _ _ c7]; rfl, by rw [cell_of_row _ _ 1 _ _ _ c7]; rfl, by simp⟩
/-- The element of a list of ints at an index. -/
theorem at_lsti {w : World} {v : Value} {l : List Int} (h : LstI w v l) : ∃ A c, v = .slice A l.length c ∧ ∀ (i : Nat) y, l[i]? = some y → ∃ b o, A = some ⟨b, o, none⟩ ∧ b < w.heap.size ∧ w.cell? ⟨b, o + i, none⟩ = some (.int .i64 y) := by
  obtain ⟨A, c, rfl, _, _, hx⟩ := h
  refine ⟨A, c, rfl, fun i y hi => ?_⟩
  obtain ⟨b, o, rfl, hb, hcell⟩ := hx (Nat.lt_of_le_of_lt (Nat.zero_le _) (List.getElem?_eq_some_iff.1 hi).1)
  exact ⟨b, o, rfl, hb, hcell i _ (ints_at l i y hi)⟩
set_option maxRecDepth 100000 in
set_option maxHeartbeats 16000000 in
theorem ranges_law (lv : Value) (l : List Cl) (_ : l.length ≤ 9223372036854775807) (_ : OkC l) (xv : Value) (x : List Ex) (_ : x.length ≤ 9223372036854775807) (_ : OkX x) (i p q : Int) (w : World) (h1 : LstC w lv l) (h2 : LstX w xv x) : Calls Try.prog 8 #[.agg #[lv, xv], .int .i64 i, .agg #[.int .i64 p, .int .i64 q]] w fun e w' => e = .returned (.bool true) ∧ Below w.heap.size w w' := by
  have E := Lib.hid (fun W => ex_any W)
  obtain ⟨w1, hw1⟩ : ∃ W, w.alloc (.cells #[lv, xv] 35 (0, 0)) = W := ⟨_, rfl⟩
  obtain ⟨b1, p0, p1, z1⟩ := box_sv hw1
  obtain ⟨w2, hw2⟩ : ∃ W, w1.alloc (.cells #[.int .i64 p, .int .i64 q] 41 (0, 0)) = W := ⟨_, rfl⟩
  obtain ⟨b2, q0, q1, z2⟩ := box_sp hw2
  have B2 := Lib.hid (b1.trans (b2.mono b1.size))
  have P := Lib.hid (fun W (hW : Below w2.heap.size w2 W) => And.intro (And.intro ((hW.cell (p := ⟨w.heap.size, 0, none⟩) (by show w.heap.size < _; omega)).trans ((b2.cell (p := ⟨w.heap.size, 0, none⟩) z1).trans p0)) ((hW.cell (p := ⟨w.heap.size, 1, none⟩) (by show w.heap.size < _; omega)).trans ((b2.cell (p := ⟨w.heap.size, 1, none⟩) z1).trans p1))) (And.intro ((hW.cell (p := ⟨w1.heap.size, 0, none⟩) z2).trans q0) ((hW.cell (p := ⟨w1.heap.size, 1, none⟩) z2).trans q1)))
  have H1 := Lib.hid (h1.below B2.out)
  have H2 := Lib.hid (h2.below B2.out)
  have SM := Lib.hid (small_any lv xv l x w2 H1.out H2.out)
  have hz2 : w.heap.size ≤ w2.heap.size := B2.out.size
  clear h1 h2 b1 b2 p0 p1 q0 q1
  obtain ⟨⟨p0, p1⟩, -, -⟩ := P.out w2 (Below.refl _ _)
  cases hb : smlB l x with
  | false =>
    rw [hb] at SM
    clear hb H1 H2
    go_enter Try.func8, Try.ntmps8
    go_wp2_with fail
    refine SM.out.mono ?_
    rintro e w3 ⟨rfl, b⟩
    have X3 := Lib.hid b
    obtain ⟨-, s0, s1⟩ := P.out w3 X3.out
    clear b SM p0 p1
    go_wp2_with fail
    refine (E.out _).mono ?_
    rintro e w4 ⟨rfl, b⟩
    have X4 := Lib.hid (X3.out.trans (b.mono X3.out.size))
    clear b E
    go_wp2_with fail
    go_ret
    exact ⟨rfl, B2.out.trans (X4.out.mono hz2)⟩
  | true =>
    rw [hb] at SM
    obtain ⟨-, hx20⟩ := smlB_of hb
    clear hb
    by_cases g1 : p < 0
    · clear H1 H2 hx20
      go_enter Try.func8, Try.ntmps8
      go_wp2_with fail
      refine SM.out.mono ?_
      rintro e w3 ⟨rfl, b⟩
      have X3 := Lib.hid b
      obtain ⟨-, s0, s1⟩ := P.out w3 X3.out
      clear b SM p0 p1
      go_wp2_with fail
      refine (E.out _).mono ?_
      rintro e w4 ⟨rfl, b⟩
      have X4 := Lib.hid (X3.out.trans (b.mono X3.out.size))
      clear b E
      go_wp2_with fail
      go_ret
      exact ⟨rfl, B2.out.trans (X4.out.mono hz2)⟩
    have d1 : decide (p < 0) = false := decide_eq_false g1
    by_cases g2 : 36524 < q
    · clear H1 H2 hx20 g1
      go_enter Try.func8, Try.ntmps8
      go_wp2_with fail
      refine SM.out.mono ?_
      rintro e w3 ⟨rfl, b⟩
      have X3 := Lib.hid b
      obtain ⟨-, s0, s1⟩ := P.out w3 X3.out
      clear b SM p0 p1
      go_wp2_with fail
      refine (E.out _).mono ?_
      rintro e w4 ⟨rfl, b⟩
      have X4 := Lib.hid (X3.out.trans (b.mono X3.out.size))
      clear b E
      go_wp2_with fail
      go_ret
      exact ⟨rfl, B2.out.trans (X4.out.mono hz2)⟩
    have d2 : decide (36524 < q) = false := decide_eq_false g2
    by_cases g3 : q < p
    · clear H1 H2 hx20 g1 g2
      go_enter Try.func8, Try.ntmps8
      go_wp2_with fail
      refine SM.out.mono ?_
      rintro e w3 ⟨rfl, b⟩
      have X3 := Lib.hid b
      obtain ⟨-, s0, s1⟩ := P.out w3 X3.out
      clear b SM p0 p1
      go_wp2_with fail
      refine (E.out _).mono ?_
      rintro e w4 ⟨rfl, b⟩
      have X4 := Lib.hid (X3.out.trans (b.mono X3.out.size))
      clear b E
      go_wp2_with fail
      go_ret
      exact ⟨rfl, B2.out.trans (X4.out.mono hz2)⟩
    have d3 : decide (q < p) = false := decide_eq_false g3
    have hpq : (0 ≤ p ∧ p ≤ q) ∧ q ≤ 36524 := by omega
    by_cases g4 : 400 < q - p
    · clear H1 H2 hx20 g1 g2 g3
      go_enter Try.func8, Try.ntmps8
      go_wp2_with fail
      refine SM.out.mono ?_
      rintro e w3 ⟨rfl, b⟩
      have X3 := Lib.hid b
      obtain ⟨-, s0, s1⟩ := P.out w3 X3.out
      clear b SM p0 p1
      go_wp2_with fail
      refine (E.out _).mono ?_
      rintro e w4 ⟨rfl, b⟩
      have X4 := Lib.hid (X3.out.trans (b.mono X3.out.size))
      clear b E
      go_wp2_with fail
      go_ret
      exact ⟨rfl, B2.out.trans (X4.out.mono hz2)⟩
    have d4 : decide ((400 : Int) < q - p) = false := decide_eq_false g4
    obtain ⟨act, hact⟩ : ∃ act, actT l x i = act := ⟨_, rfl⟩
    have KD := Lib.hid (fun W (hW : Below w2.heap.size w2 W) => days_any lv xv l x (by omega) i p q W (H1.out.below hW) (H2.out.below hW))
    have KA := Lib.hid (fun d W (hW : Below w2.heap.size w2 W) => active_any lv xv l x (by omega) i d W (H1.out.below hW) (H2.out.below hW))
    have KN := Lib.hid (fun W (hW : Below w2.heap.size w2 W) => next_any lv xv l x (by omega) i p W (H1.out.below hW) (H2.out.below hW))
    have KP := Lib.hid (fun W (hW : Below w2.heap.size w2 W) => prev_any lv xv l x (by omega) i q W (H1.out.below hW) (H2.out.below hW))
    rw [hact] at KD KA KN KP
    have RN := Lib.hid (fun h => range_none (act := act) hpq.1.1 hpq.1.2 hpq.2 h)
    have RS := Lib.hid (fun h => range_some (act := act) hpq.1.1 hpq.1.2 hpq.2 h)
    obtain ⟨m, hm⟩ : ∃ m : Nat, (q + 1 - p).toNat = m := ⟨_, rfl⟩
    have HM : Hid (q + 1 = p + (m : Int) ∧ m ≤ 401) := by
      refine ⟨?_, ?_⟩ <;> omega
    have hD : daysT act p q = dayK act p m := by rw [daysT_in hpq.1.1 hpq.2, hm]
    have HD := Lib.hid hD
    have HL : Hid ((daysT act p q).length ≤ 401) := daysT_le (by omega)
    generalize nxtT act p = rn at KN RN RS
    generalize prvT act q = rp at KP RN RS
    generalize daysT act p q = D at KD RN RS HD HL
    clear hact H1 H2 hx20 g1 g2 g3 g4 hm hD
    go_enter Try.func8, Try.ntmps8
    go_wp2_with fail
    refine SM.out.mono ?_
    rintro e w3 ⟨rfl, b⟩
    have X3 := Lib.hid b
    obtain ⟨⟨t0, t1⟩, s0, s1⟩ := P.out w3 X3.out
    clear b SM p0 p1
    go_wp2_with fail
    refine (KD.out w3 X3.out).mono ?_
    rintro e w4 ⟨u, rfl, o4, b⟩
    have X4 := Lib.hid (X3.out.trans (b.mono X3.out.size))
    have L4 := Lib.hid (OwnI.lst o4)
    obtain ⟨⟨c0, c1⟩, v0, v1⟩ := P.out w4 X4.out
    clear b o4 KD X3 s0 s1 t0 t1 d1 d2 d3 d4
    obtain ⟨A, cap, rfl, -⟩ := at_lsti L4.out
    go_wp2_with fail
    go_loopw [9, 8] (fun d' n' wr => ∃ (k : Nat) (dd : Int) (nn : Nat), d' = .int .i64 dd ∧ n' = .int .i64 nn ∧ Hid (dd = p + (k : Int) ∧ k ≤ m ∧ nn = (dayK act p k).length) ∧ Hid (Below w4.heap.size w4 wr)) (fun d' _ _ => (q + 1 - intOf d').toNat)
    case atStart => exact ⟨0, _, 0, rfl, rfl, Lib.hid ⟨by simp, Nat.zero_le _, rfl⟩, Lib.hid (Below.refl _ _)⟩
    case round =>
      clear c0 c1 v0 v1
      obtain ⟨k, dd, nn, rfl, rfl, HK, HB⟩ := hrel
      have XR := Lib.hid (X4.out.trans (HB.out.mono X4.out.size))
      obtain ⟨⟨c0, c1⟩, v0, v1⟩ := P.out wr XR.out
      by_cases hlt : dd ≤ q
      · have C := Lib.hid (KA.out dd wr XR.out)
        have hdd : 0 ≤ dd ∧ dd ≤ 36524 := by have := HK.out; omega
        cases ha : act dd with
        | true =>
          rw [ha] at C
          have G := dayK_get (act := act) (lo := p) (k := k) (by rw [← HK.out.1]; exact ha) m (by have := HK.out; have := HM.out; omega)
          have YS := dayK_yes (act := act) (lo := p) (n := k) (by rw [← HK.out.1]; exact ha)
          rw [← HD.out, ← HK.out.2.2, ← HK.out.1] at G
          have N : Hid (dd + 1 = p + ((k + 1 : Nat) : Int) ∧ k + 1 ≤ m ∧ nn + 1 = (dayK act p (k + 1)).length) := by
            refine ⟨by have := HK.out; omega, by have := HK.out; have := HM.out; omega, ?_⟩
            rw [YS, List.length_append, ← HK.out.2.2]
            rfl
          have G1 := Lib.hid G.1
          have gk : (nn : Int) < (D.length : Int) := by have := G.2; omega
          have gk2 : decide (D.length ≤ nn) = false := by rw [decide_eq_false_iff_not]; omega
          have hn1 : nn ≤ 401 := by have := HL.out; omega
          have ne : (dd != dd) = false := neq_false rfl
          clear ha G YS
          go_wp2_with fail
          refine C.out.mono ?_
          rintro e w5 ⟨rfl, b⟩
          have b45 := HB.out.trans (b.mono HB.out.size)
          have B5 := Lib.hid b45
          obtain ⟨A', cap', e5, h5⟩ := at_lsti (L4.out.below b45)
          obtain ⟨bk, o, rfl, hbk, m5⟩ := h5 nn dd G1.out
          cases e5
          clear b b45 C HB G1 c0 c1 v0 v1
          go_wp2_with fail
          go_roundw
          case rel => exact ⟨k + 1, dd + 1, nn + 1, by go_num, by go_num, N, B5⟩
          case measure => simp [intOf]; omega
        | false =>
          rw [ha] at C
          have NO := dayK_no (act := act) (lo := p) (n := k) (by rw [← HK.out.1]; exact ha)
          have N : Hid (dd + 1 = p + ((k + 1 : Nat) : Int) ∧ k + 1 ≤ m ∧ nn = (dayK act p (k + 1)).length) := by
            refine ⟨by have := HK.out; omega, by have := HK.out; have := HM.out; omega, ?_⟩
            rw [NO, ← HK.out.2.2]
          clear ha NO
          go_wp2_with fail
          refine C.out.mono ?_
          rintro e w5 ⟨rfl, b⟩
          have B5 := Lib.hid (HB.out.trans (b.mono HB.out.size))
          clear b C HB c0 c1 v0 v1
          go_wp2_with fail
          go_roundw
          case rel => exact ⟨k + 1, dd + 1, nn, by go_num, rfl, N, B5⟩
          case measure => simp [intOf]; omega
      · have dk : decide (dd ≤ q) = false := decide_eq_false hlt
        have hnn : nn = D.length := by
          have h := HK.out
          have h2 := HM.out
          rw [h.2.2, HD.out, show k = m by omega]
        have CN := Lib.hid (KN.out wr XR.out)
        clear HK hlt KA KN
        go_wp2_with fail
        refine CN.out.mono ?_
        rintro e w6 ⟨rfl, b⟩
        have X6 := Lib.hid (XR.out.trans (b.mono XR.out.size))
        have B6 := Lib.hid (HB.out.trans (b.mono HB.out.size))
        clear b c0 c1 v0 v1 CN HB XR
        obtain ⟨⟨c0, c1⟩, v0, v1⟩ := P.out w6 X6.out
        have CP := Lib.hid (KP.out w6 X6.out)
        go_wp2_with fail
        refine CP.out.mono ?_
        rintro e w7 ⟨rfl, b⟩
        have X7 := Lib.hid (X6.out.trans (b.mono X6.out.size))
        have b47 := B6.out.trans (b.mono B6.out.size)
        have L7 := Lib.hid (L4.out.below b47)
        clear b c0 c1 v0 v1 CP B6 X6 KP L4 b47
        obtain ⟨-, v0, v1⟩ := P.out w7 X7.out
        by_cases hD : D = []
        · subst hD
          obtain ⟨N1, N2⟩ := RN.out rfl
          simp at hnn
          subst hnn
          clear RN RS HD HL L7 HM
          rcases N1 with rfl | ⟨y1, hy1, rfl⟩
          · rcases N2 with rfl | ⟨y2, hy2, rfl⟩
            · go_wp2_with fail
              refine (E.out _).mono ?_
              rintro e w9 ⟨rfl, b⟩
              have X9 := Lib.hid (X7.out.trans (b.mono X7.out.size))
              clear b E
              go_wp2_with fail
              go_ret
              exact ⟨rfl, B2.out.trans (X9.out.mono hz2)⟩
            · go_wp2_with fail
              refine (E.out _).mono ?_
              rintro e w9 ⟨rfl, b⟩
              have X9 := Lib.hid (X7.out.trans (b.mono X7.out.size))
              clear b E
              go_wp2_with fail
              go_ret
              exact ⟨rfl, B2.out.trans (X9.out.mono hz2)⟩
          · rcases N2 with rfl | ⟨y2, hy2, rfl⟩
            · go_wp2_with fail
              refine (E.out _).mono ?_
              rintro e w9 ⟨rfl, b⟩
              have X9 := Lib.hid (X7.out.trans (b.mono X7.out.size))
              clear b E
              go_wp2_with fail
              go_ret
              exact ⟨rfl, B2.out.trans (X9.out.mono hz2)⟩
            · go_wp2_with fail
              refine (E.out _).mono ?_
              rintro e w9 ⟨rfl, b⟩
              have X9 := Lib.hid (X7.out.trans (b.mono X7.out.size))
              clear b E
              go_wp2_with fail
              go_ret
              exact ⟨rfl, B2.out.trans (X9.out.mono hz2)⟩
        · obtain ⟨y1, y2, rfl, e1, rfl, e2⟩ := RS.out hD
          obtain ⟨A', cap', e7, h7⟩ := at_lsti L7.out
          obtain ⟨bk, o, rfl, -, m1⟩ := h7 _ _ e1
          obtain ⟨bk', o', e8, -, m2⟩ := h7 _ _ e2
          cases e8
          cases e7
          subst hnn
          rw [Nat.add_zero] at m1
          have hl0 : 0 < D.length := List.length_pos_iff.2 hD
          obtain ⟨c, hc⟩ : ∃ c, D.length - 1 = c := ⟨_, rfl⟩
          rw [hc] at m2
          have ec : (D.length : Int) - 1 = (c : Int) := by omega
          have gk : (c : Int) < (D.length : Int) := by omega
          have gk0 : (0 : Int) < (D.length : Int) := by omega
          have n0 := beq_false (a := (D.length : Int)) (b := 0) (by omega)
          have t1 := beq_true (a := y1) rfl
          have t2 := beq_true (a := y2) rfl
          have t3 := beq_true (a := (D.length : Int)) rfl
          have hN : D.length ≤ 401 := HL.out
          have hcN : c ≤ 401 := by omega
          generalize D.length = N at *
          clear RN RS HD HL L7 HM h7 e1 e2 hD hl0 hc
          go_wp2_with fail
          refine (E.out _).mono ?_
          rintro e w9 ⟨rfl, b⟩
          have X9 := Lib.hid (X7.out.trans (b.mono X7.out.size))
          clear b E
          go_wp2_with fail
          go_ret
          exact ⟨rfl, B2.out.trans (X9.out.mono hz2)⟩
end Go.Proofs.Ytlbockpaeacigaa
