/-
  The reference's Time and Around: what each call answers; nothing that existed before the call has changed behind it. Condition: lists of at most 100000 footpaths.
-/
import Derived.Test.YtibakhobgfiklaaFpF
import Derived.Test.YtibakhobgfiklaaMd
namespace Go.Proofs.Ytibakhobgfiklaa
open Go.RowKit Go.Sort

set_option maxRecDepth 100000 in
set_option maxHeartbeats 4000000 in
theorem rtime_any (v : Value) (l : List Fp) (hl : l.length ≤ 100000) (fr tt : Int) (sf : Bool) (w : World) (h : LstF w v l) : Calls Try.prog 18 #[v, .int .i64 fr, .int .i64 tt, .bool sf] w fun e w' => e = .returned (.tuple #[.int .i64 (tiV (tiF l fr tt sf)), .bool (tiB (tiF l fr tt sf))]) ∧ Below w.heap.size w w' := by
  have hh := h
  obtain ⟨A, c, rfl, -⟩ := hh
  have H := Lib.hid h
  clear h
  go_enter Try.func18, Try.ntmps18
  go_wp2_with fail
  go_loopw [10, 11, 12] (fun u x i wr => ∃ (k : Nat) (n : Int) (q : Bool), u = .int .i64 n ∧ x = .bool q ∧ i = .int .i64 (k : Int) ∧ k ≤ l.length ∧ Hid (TiS (tiF (l.take k) fr tt sf) n q) ∧ Hid (RowKit.Below w.heap.size w wr)) (fun _ _ i _ => l.length - (intOf i).toNat)
  case atStart => exact ⟨0, 0, false, rfl, rfl, rfl, Nat.zero_le _, Lib.hid (.inl ⟨rfl, rfl, rfl⟩), Lib.hid (RowKit.Below.refl _ _)⟩
  case round =>
    obtain ⟨k, n, q, rfl, rfl, rfl, hk, HT, HB⟩ := hrel
    by_cases hlt : k < l.length
    · obtain ⟨⟨a, b, s, f⟩, hx⟩ := at_lt hlt
      obtain ⟨b', o, rfl, hb, m0, m1, m2, m3⟩ := four_at (H.out.below HB.out) hx
      have gk : (k : Int) < (l.length : Int) := by omega
      obtain ⟨w7, hw7⟩ : ∃ W, wr.alloc (boxF a b s f) = W := ⟨_, rfl⟩
      obtain ⟨b7, p0, p1, p2, p3, s7, c7⟩ := box_fp hw7
      obtain ⟨y0, y1⟩ := box_last hw7
      have B7 := Lib.hid (HB.out.trans (b7.mono HB.out.size))
      have NX := ti_next (a := fr) (b := tt) (sf := sf) hx
      clear hx hb b7 c7 s7 HB
      by_cases h1 : ¬ a = fr
      · have t := beq_false (a := a) (b := fr) h1
        have N : Hid (TiS (tiF (l.take (k + 1)) fr tt sf) n q) := by show TiS _ _ _; rw [NX, tiS_no (isP_from h1)]; exact HT.out
        clear NX HT h1
        go_wp2_with fail
        go_roundw
        case rel => exact ⟨k + 1, n, q, rfl, rfl, by go_num, by omega, N, B7⟩
        case measure => simp [intOf]; omega
      have h1 := Decidable.not_not.1 h1
      have t1 := beq_true (a := a) (b := fr) h1
      by_cases h2 : ¬ b = tt
      · have t := beq_false (a := b) (b := tt) h2
        have N : Hid (TiS (tiF (l.take (k + 1)) fr tt sf) n q) := by show TiS _ _ _; rw [NX, tiS_no (isP_to h2)]; exact HT.out
        clear NX HT h1 h2
        go_wp2_with fail
        go_roundw
        case rel => exact ⟨k + 1, n, q, rfl, rfl, by go_num, by omega, N, B7⟩
        case measure => simp [intOf]; omega
      have h2 := Decidable.not_not.1 h2
      have t2 := beq_true (a := b) (b := tt) h2
      cases hu : (f || !sf) with
      | false =>
        have N : Hid (TiS (tiF (l.take (k + 1)) fr tt sf) n q) := by show TiS _ _ _; rw [NX, tiS_no (isP_use (x := (a, b, s, f)) hu)]; exact HT.out
        obtain ⟨rfl, rfl⟩ : f = false ∧ sf = true := by cases f <;> cases sf <;> simp at hu <;> exact ⟨rfl, rfl⟩
        clear NX HT h1 h2 hu
        go_wp2_with fail
        go_roundw
        case rel => exact ⟨k + 1, n, q, rfl, rfl, by go_num, by omega, N, B7⟩
        case measure => simp [intOf]; omega
      | true =>
        have hP : isP fr tt sf (a, b, s, f) = true := isP_iff.2 ⟨h1, h2, hu⟩
        have hfs : f = true ∨ (f = false ∧ sf = false) := by cases f <;> cases sf <;> simp at hu <;> simp
        clear hu h1 h2
        cases q with
        | false =>
          have N : Hid (TiS (tiF (l.take (k + 1)) fr tt sf) s true) := by
            rcases HT.out with ⟨-, -, e⟩ | ⟨e, -⟩
            · show TiS _ _ _
              rw [NX, e, tiS_first hP]
              exact .inr ⟨rfl, rfl⟩
            · cases e
          clear NX HT hP
          rcases hfs with rfl | ⟨rfl, rfl⟩
          all_goals
            go_wp2_with fail
            go_roundw
            case rel => exact ⟨k + 1, s, true, rfl, rfl, by go_num, by omega, N, B7⟩
            case measure => simp [intOf]; omega
        | true =>
          have hn : tiF (l.take k) fr tt sf = some n := by
            rcases HT.out with ⟨e, -⟩ | ⟨-, e⟩
            · cases e
            · exact e
          by_cases hs : s < n
          · have N : Hid (TiS (tiF (l.take (k + 1)) fr tt sf) s true) := by
              show TiS _ _ _
              rw [NX, hn, tiS_less hP hs]
              exact .inr ⟨rfl, rfl⟩
            clear NX HT hP hn
            rcases hfs with rfl | ⟨rfl, rfl⟩
            all_goals
              go_wp2_with fail
              go_roundw
              case rel => exact ⟨k + 1, s, true, rfl, rfl, by go_num, by omega, N, B7⟩
              case measure => simp [intOf]; omega
          · have d : decide (s < n) = false := decide_eq_false hs
            have N : Hid (TiS (tiF (l.take (k + 1)) fr tt sf) n true) := by
              show TiS _ _ _
              rw [NX, hn, tiS_more hP hs]
              exact .inr ⟨rfl, rfl⟩
            clear NX HT hP hn hs
            rcases hfs with rfl | ⟨rfl, rfl⟩
            all_goals
              go_wp2_with fail
              go_roundw
              case rel => exact ⟨k + 1, n, true, rfl, rfl, by go_num, by omega, N, B7⟩
              case measure => simp [intOf]; omega
    · have d : decide (k < l.length) = false := by rw [decide_eq_false_iff_not]; exact hlt
      have R : Hid (TiS (tiF l fr tt sf) n q) := by
        have := HT.out
        rw [List.take_of_length_le (by omega)] at this
        exact this
      clear hlt HT
      go_wp2_with fail
      go_ret2
      exact ⟨ret_ti R.out, HB.out⟩
theorem arS_yes {s m : Int} {sf : Bool} {out : List Int} {x : Fp} (h : nrP s m sf x = true) : arS s m sf out x = insA out x.2.1 := by unfold arS; rw [if_pos h]
theorem arS_not {s m : Int} {sf : Bool} {out : List Int} {x : Fp} (h : nrP s m sf x = false) : arS s m sf out x = out := by unfold arS; rw [if_neg (by rw [h]; simp)]
set_option maxRecDepth 100000 in
set_option maxHeartbeats 8000000 in
theorem raround_any (v : Value) (l : List Fp) (hl : l.length ≤ 100000) (st mo : Int) (sf : Bool) (w : World) (h : LstF w v l) :
    Calls Try.prog 21 #[v, .int .i64 st, .int .i64 mo, .bool sf] w fun e w' => ∃ v', e = .returned v' ∧ LstI w' v' (arF l st mo sf) ∧ RowKit.Below w.heap.size w w' := by
  have hh := h
  obtain ⟨A, c, rfl, -⟩ := hh
  have H := Lib.hid h
  clear h
  go_enter Try.func21, Try.ntmps21
  go_wp2_with fail
  go_loopw [9, 10] (fun u i wr => ∃ (k : Nat) (out : List Int), i = .int .i64 (k : Int) ∧ k ≤ l.length ∧ Hid (arF (l.take k) st mo sf = out) ∧ Hid (OwnI wr w.heap.size u out) ∧ Hid (RowKit.Below w.heap.size w wr)) (fun _ i _ => l.length - (intOf i).toNat)
  case atStart => exact ⟨0, [], rfl, Nat.zero_le _, Lib.hid rfl, Lib.hid (OwnI.nil _ _), Lib.hid (RowKit.Below.refl _ _)⟩
  case round =>
    obtain ⟨k, out, rfl, hk, HA, HO, HB⟩ := hrel
    by_cases hlt : k < l.length
    · obtain ⟨⟨a, b, s, f⟩, hx⟩ := at_lt hlt
      obtain ⟨b', o, rfl, hb, m0, m1, m2, m3⟩ := four_at (H.out.below HB.out) hx
      have gk : (k : Int) < (l.length : Int) := by omega
      obtain ⟨w7, hw7⟩ : ∃ W, wr.alloc (boxF a b s f) = W := ⟨_, rfl⟩
      obtain ⟨b7, p0, p1, p2, p3, s7, c7⟩ := box_fp hw7
      obtain ⟨y0, y1⟩ := box_last hw7
      have B7 := Lib.hid (HB.out.trans (b7.mono HB.out.size))
      have O7 := Lib.hid (HO.out.below b7)
      have NX := ar_next (s := st) (m := mo) (sf := sf) hx
      have UP : Hid (out.Pairwise (· < ·)) := by rw [← HA.out]; exact ar_up _ _ _ _
      have LO : Hid (out.length ≤ 100000) := by
        have := ar_len (l.take k) st mo sf
        rw [HA.out, List.length_take] at this
        show _ ≤ _
        omega
      rw [HA.out] at NX
      clear hx hb b7 c7 s7 HB HO HA
      by_cases h1 : ¬ a = st
      · have t := bne_true (a := a) (b := st) h1
        have N : Hid (arF (l.take (k + 1)) st mo sf = out) := by show _ = _; rw [NX, arS_not (nr_no1 h1)]
        clear NX h1
        go_wp2_with fail
        go_roundw
        case rel => exact ⟨k + 1, out, by go_num, by omega, N, O7, B7⟩
        case measure => simp [intOf]; omega
      have h1 := Decidable.not_not.1 h1
      have t1 := neq_false (a := a) (b := st) h1
      cases hu : (f || !sf) with
      | false =>
        have N : Hid (arF (l.take (k + 1)) st mo sf = out) := by show _ = _; rw [NX, arS_not (nr_no3 (x := (a, b, s, f)) hu)]
        obtain ⟨rfl, rfl⟩ : f = false ∧ sf = true := by cases f <;> cases sf <;> simp at hu <;> exact ⟨rfl, rfl⟩
        clear NX h1 hu
        go_wp2_with fail
        go_roundw
        case rel => exact ⟨k + 1, out, by go_num, by omega, N, O7, B7⟩
        case measure => simp [intOf]; omega
      | true =>
        have hfs : f = true ∨ (f = false ∧ sf = false) := by cases f <;> cases sf <;> simp at hu <;> simp
        by_cases h2 : mo < s
        · have N : Hid (arF (l.take (k + 1)) st mo sf = out) := by show _ = _; rw [NX, arS_not (nr_no2 (x := (a, b, s, f)) (by show ¬ s ≤ mo; omega))]
          clear NX h1 hu
          rcases hfs with rfl | ⟨rfl, rfl⟩
          all_goals
            go_wp2_with fail
            go_roundw
            case rel => exact ⟨k + 1, out, by go_num, by omega, N, O7, B7⟩
            case measure => simp [intOf]; omega
        · have d2 : decide (mo < s) = false := decide_eq_false h2
          have NI : Hid (arF (l.take (k + 1)) st mo sf = insA out b) := by show _ = _; rw [NX, arS_yes (show nrP st mo sf (a, b, s, f) = true from nrP_iff.2 ⟨h1, hu, by show s ≤ mo; omega⟩)]
          have C7 : Hid (w7.cell? ⟨wr.heap.size, 1, none⟩ = some (.int .i64 b) ∧ wr.heap.size < w7.heap.size) := Lib.hid ⟨p1, by rw [← hw7]; simp⟩
          have KK : Hid (k < l.length) := Lib.hid hlt
          obtain ⟨A9, c9, hv9⟩ := own_shape' O7.out
          subst hv9
          obtain ⟨ls1, ls2, ls3⟩ := ls_spec b out
          have LS := Lib.hid (And.intro ls1 (And.intro ls2 ls3))
          clear NX h1 hu h2 ls1 ls2 ls3
          have ENT : Hid (f = true ∨ (f = false ∧ sf = false)) := Lib.hid hfs
          rcases hfs with rfl | ⟨rfl, rfl⟩
          all_goals
            go_wp2_with fail
            clear hw7 p0 p1 p2 p3 y0 y1 m0 m1 m2 m3
            generalize wr.heap.size = bk at C7 ⊢
            go_loopw [12] (fun i wx => ∃ q : Nat, i = .int .i64 (q : Int) ∧ q ≤ lsN b out ∧ Hid (RowKit.Below w7.heap.size w7 wx)) (fun i _ => out.length + 1 - (intOf i).toNat)
            case atStart => exact ⟨0, rfl, Nat.zero_le _, Lib.hid (RowKit.Below.refl _ _)⟩
            case round =>
              obtain ⟨q, rfl, hq, HX⟩ := hrel
              have p1 := (HX.out.cell (p := ⟨bk, 1, none⟩) C7.out.2).trans C7.out.1
              have O8 := Lib.hid (O7.out.below HX.out)
              have B8 := Lib.hid (B7.out.trans (HX.out.mono B7.out.size))
              have bq : q ≤ 100000 := by have := LS.out.1; have := LO.out; omega
              have P8 := HX
              clear HX
              by_cases hqs : q < lsN b out
              · have QS := Lib.hid hqs
                obtain ⟨y, hy⟩ := at_lt (show q < out.length by have := LS.out.1; omega)
                have hyb : y < b := LS.out.2.1 q y hqs hy
                obtain ⟨bx, ox, rfl, -, n0⟩ := int_cell (OwnI.lst O8.out) hy
                have gq : (q : Int) < (out.length : Int) := by have := LS.out.1; omega
                have hy0 := decide_eq_true hyb
                clear hy hqs hq
                go_wp2_with fail
                go_quiet (fail)
                have P9 := Lib.hid (below_drewN P8.out nq)
                have B9 := Lib.hid (below_drewN B8.out nq)
                have O9 := Lib.hid (O8.out.below (below_drewN (RowKit.Below.refl _ _) nq))
                generalize wr.drewN nq = w9 at P9 B9 O9 ⊢
                clear P8 B8 O8
                clear p1 n0
                go_wp2_with fail
                go_roundw
                case rel => exact ⟨q + 1, by go_num, QS.out, P9⟩
                case measure => have := LS.out.1; have := QS.out; simp [intOf]; omega
              · have HQ : Hid (q = lsN b out) := by show _ = _; omega
                by_cases hql : q < out.length
                · obtain ⟨y, hy⟩ := at_lt hql
                  have hyb : ¬ y < b := Int.not_lt.2 (LS.out.2.2 y (by rw [← HQ.out]; exact hy))
                  have dy : decide (y < b) = false := decide_eq_false hyb
                  obtain ⟨bx, ox, rfl, -, n0⟩ := int_cell (OwnI.lst O8.out) hy
                  have gq : (q : Int) < (out.length : Int) := by omega
                  clear hq hqs
                  go_wp2_with fail
                  go_quiet (fail)
                  have P9 := Lib.hid (below_drewN P8.out nq)
                  have B9 := Lib.hid (below_drewN B8.out nq)
                  have O9 := Lib.hid (O8.out.below (below_drewN (RowKit.Below.refl _ _) nq))
                  generalize wr.drewN nq = w9 at P9 B9 O9 ⊢
                  clear P8 B8 O8
                  clear p1 n0
                  have P8 := P9
                  have B8 := B9
                  have O8 := O9
                  clear P9 B9 O9
                  have p1 := (P8.out.cell (p := ⟨bk, 1, none⟩) C7.out.2).trans C7.out.1
                  obtain ⟨bx, ox, hA, -, n0⟩ := int_cell (OwnI.lst O8.out) hy
                  cases hA
                  by_cases hye : y = b
                  · have t := beq_true hye
                    have e0 : insA out b = out := by
                      unfold insA
                      rw [if_pos (List.mem_iff_getElem?.2 ⟨q, by rw [← hye]; exact hy⟩)]
                    have N := Lib.hid (NI.out.trans e0)
                    clear e0
                    clear hye hyb hy
                    go_wp2_with fail
                    go_quiet (fail)
                    have P9 := Lib.hid (below_drewN P8.out nq)
                    have B9 := Lib.hid (below_drewN B8.out nq)
                    have O9 := Lib.hid (O8.out.below (below_drewN (RowKit.Below.refl _ _) nq))
                    generalize w9.drewN nq = w9 at P9 B9 O9 ⊢
                    clear P8 B8 O8
                    clear p1 n0
                    go_wp2_with fail
                    go_roundw
                    case rel => exact ⟨k + 1, out, by go_num, by have := KK.out; omega, N, O9, B9⟩
                    case measure => have := KK.out; simp [intOf]; omega
                  · have t := beq_false hye
                    have NEW : Hid (b ∉ out) := ls_new UP.out (by rw [← HQ.out, hy]; exact fun e => hye (Option.some.inj e))
                    clear hye hyb hy
                    go_wp2_with fail
                    go_quiet (fail)
                    have P9 := Lib.hid (below_drewN P8.out nq)
                    have B9 := Lib.hid (below_drewN B8.out nq)
                    have O9 := Lib.hid (O8.out.below (below_drewN (RowKit.Below.refl _ _) nq))
                    generalize w9.drewN nq = w9 at P9 B9 O9 ⊢
                    clear P8 B8 O8
                    clear p1 n0
                    obtain ⟨v1, run1, L1⟩ := ints_to (OwnI.lst O9.out) q (by have := LS.out.1; have := HQ.out; omega) (q : Int) rfl
                    obtain ⟨v2, run2, L2⟩ := ints_from (OwnI.lst O9.out) q (by have := LS.out.1; have := HQ.out; omega) (q : Int) rfl
                    have LH1 := Lib.hid L1
                    have LH2 := Lib.hid L2
                    clear L1 L2
                    have q9 := (P9.out.cell (p := ⟨bk, 1, none⟩) C7.out.2).trans C7.out.1
                    have lt1 : (out.take q).length ≤ 100000 := by have := LO.out; rw [List.length_take]; omega
                    have ld1 : (out.drop q).length ≤ 100000 := by have := LO.out; rw [List.length_drop]; omega
                    go_wp2_with (at_builtin; refine app_ints _ rfl (.tmp 70) (.tmp 73) rfl w9.heap.size _ [] (out.take q) rfl (OwnI.nil _ _) _ rfl LH1.out (Nat.le_refl _) (by simp only [List.length_nil]; omega) ?_; intro u2 w10 own10 b10; refine Hid.out ?_)
                    refine Lib.hid ?_
                    rw [List.nil_append] at own10
                    have O10 := Lib.hid own10
                    have X10 := Lib.hid b10
                    have q10 := (b10.cell (p := ⟨bk, 1, none⟩) (Nat.lt_of_lt_of_le C7.out.2 P9.out.size)).trans q9
                    have hz10 := b10.size
                    clear own10 b10 q9 run1 LH1
                    go_wp2_with (at_builtin; refine app_int _ rfl (.tmp 75) (.tmp 78) rfl w9.heap.size _ (out.take q) b rfl (World.ownsRow.alloc O10.out _) w10.heap.size _ (heap_alloc_new _ _) rfl rfl (by simp; omega) (by omega) ?_; intro u3 w11 own11 b11; refine Hid.out ?_)
                    refine Lib.hid ?_
                    have O11 := Lib.hid own11
                    have X11 := Lib.hid ((X10.out.alloc hz10 _).trans b11)
                    have LX := Lib.hid (LH2.out.below X11.out)
                    have hz11 := X11.out.size
                    clear own11 b11 q10 O10 X10 LH2 hz10
                    go_wp2_with (at_builtin; refine app_ints _ rfl (.tmp 80) (.tmp 83) rfl w9.heap.size _ (out.take q ++ [b]) (out.drop q) rfl O11.out _ rfl LX.out hz11 (by rw [List.length_append, List.length_singleton]; omega) ?_; intro u4 w12 own12 b12; refine Hid.out ?_)
                    refine Lib.hid ?_
                    have O12 : Hid (OwnI w12 w.heap.size u4 (insA out b)) := by
                      show OwnI _ _ _ _
                      have e : insA out b = (out.take q ++ [b]) ++ out.drop q := by
                        unfold insA
                        rw [if_neg NEW.out, ← HQ.out, List.append_assoc]
                        rfl
                      rw [e]
                      exact own_down own12 B9.out.size
                    have B12 := Lib.hid (B9.out.trans ((X11.out.trans b12).mono B9.out.size))
                    clear own12 b12 O11 X11 LX O9 B9 P9 hz11 lt1 ld1 run2
                    go_wp2_with fail
                    go_roundw
                    case rel => exact ⟨k + 1, _, by go_num, by have := KK.out; omega, NI, O12, B12⟩
                    case measure => have := KK.out; simp [intOf]; omega
                · have dl : decide (q < out.length) = false := by rw [decide_eq_false_iff_not]; exact hql
                  have dl' : decide ((q : Int) < (out.length : Int)) = false := by rw [decide_eq_false_iff_not]; omega
                  have HL : Hid (q = out.length) := by show _ = _; have := LS.out.1; have := HQ.out; omega
                  have NEW : Hid (b ∉ out) := ls_new UP.out (by rw [← HQ.out, List.getElem?_eq_none (by omega)]; simp)
                  clear hq hqs hql
                  go_wp2_with fail
                  go_quiet (fail)
                  have P9 := Lib.hid (below_drewN P8.out nq)
                  have B9 := Lib.hid (below_drewN B8.out nq)
                  have O9 := Lib.hid (O8.out.below (below_drewN (RowKit.Below.refl _ _) nq))
                  generalize wr.drewN nq = w9 at P9 B9 O9 ⊢
                  clear P8 B8 O8
                  have P8 := P9
                  have B8 := B9
                  have O8 := O9
                  clear P9 B9 O9
                  have p1 := (P8.out.cell (p := ⟨bk, 1, none⟩) C7.out.2).trans C7.out.1
                  go_wp2_with fail
                  go_quiet (fail)
                  have P9 := Lib.hid (below_drewN P8.out nq)
                  have B9 := Lib.hid (below_drewN B8.out nq)
                  have O9 := Lib.hid (O8.out.below (below_drewN (RowKit.Below.refl _ _) nq))
                  generalize w9.drewN nq = w9 at P9 B9 O9 ⊢
                  clear P8 B8 O8
                  clear p1
                  obtain ⟨v1, run1, L1⟩ := ints_to (OwnI.lst O9.out) q (by have := HL.out; omega) (q : Int) rfl
                  obtain ⟨v2, run2, L2⟩ := ints_from (OwnI.lst O9.out) q (by have := HL.out; omega) (q : Int) rfl
                  have LH1 := Lib.hid L1
                  have LH2 := Lib.hid L2
                  clear L1 L2
                  have q9 := (P9.out.cell (p := ⟨bk, 1, none⟩) C7.out.2).trans C7.out.1
                  have lt1 : (out.take q).length ≤ 100000 := by have := LO.out; rw [List.length_take]; omega
                  have ld1 : (out.drop q).length ≤ 100000 := by have := LO.out; rw [List.length_drop]; omega
                  go_wp2_with (at_builtin; refine app_ints _ rfl (.tmp 70) (.tmp 73) rfl w9.heap.size _ [] (out.take q) rfl (OwnI.nil _ _) _ rfl LH1.out (Nat.le_refl _) (by simp only [List.length_nil]; omega) ?_; intro u2 w10 own10 b10; refine Hid.out ?_)
                  refine Lib.hid ?_
                  rw [List.nil_append] at own10
                  have O10 := Lib.hid own10
                  have X10 := Lib.hid b10
                  have q10 := (b10.cell (p := ⟨bk, 1, none⟩) (Nat.lt_of_lt_of_le C7.out.2 P9.out.size)).trans q9
                  have hz10 := b10.size
                  clear own10 b10 q9 run1 LH1
                  go_wp2_with (at_builtin; refine app_int _ rfl (.tmp 75) (.tmp 78) rfl w9.heap.size _ (out.take q) b rfl (World.ownsRow.alloc O10.out _) w10.heap.size _ (heap_alloc_new _ _) rfl rfl (by simp; omega) (by omega) ?_; intro u3 w11 own11 b11; refine Hid.out ?_)
                  refine Lib.hid ?_
                  have O11 := Lib.hid own11
                  have X11 := Lib.hid ((X10.out.alloc hz10 _).trans b11)
                  have LX := Lib.hid (LH2.out.below X11.out)
                  have hz11 := X11.out.size
                  clear own11 b11 q10 O10 X10 LH2 hz10
                  go_wp2_with (at_builtin; refine app_ints _ rfl (.tmp 80) (.tmp 83) rfl w9.heap.size _ (out.take q ++ [b]) (out.drop q) rfl O11.out _ rfl LX.out hz11 (by rw [List.length_append, List.length_singleton]; omega) ?_; intro u4 w12 own12 b12; refine Hid.out ?_)
                  refine Lib.hid ?_
                  have O12 : Hid (OwnI w12 w.heap.size u4 (insA out b)) := by
                    show OwnI _ _ _ _
                    have e : insA out b = (out.take q ++ [b]) ++ out.drop q := by
                      unfold insA
                      rw [if_neg NEW.out, ← HQ.out, List.append_assoc]
                      rfl
                    rw [e]
                    exact own_down own12 B9.out.size
                  have B12 := Lib.hid (B9.out.trans ((X11.out.trans b12).mono B9.out.size))
                  clear own12 b12 O11 X11 LX O9 B9 P9 hz11 lt1 ld1 run2
                  go_wp2_with fail
                  go_roundw
                  case rel => exact ⟨k + 1, _, by go_num, by have := KK.out; omega, NI, O12, B12⟩
                  case measure => have := KK.out; simp [intOf]; omega
    · have d : decide (k < l.length) = false := by rw [decide_eq_false_iff_not]; exact hlt
      have K : Hid (LstI wr u9 (arF l st mo sf) ∧ RowKit.Below w.heap.size w wr) := by
        have h1 := HA.out
        rw [List.take_of_length_le (by omega)] at h1
        rw [h1]
        exact ⟨OwnI.lst HO.out, HB.out⟩
      clear hlt HA HO HB
      go_wp2_with fail
      go_ret
      exact ⟨_, rfl, K.out⟩
end Go.Proofs.Ytibakhobgfiklaa
