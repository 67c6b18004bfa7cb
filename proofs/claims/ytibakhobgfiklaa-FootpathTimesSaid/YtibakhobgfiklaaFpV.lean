/-
  The reference's valid and Check: what each call answers; nothing that existed before the call has changed behind it. Condition: lists of at most 1000000 footpaths.
-/
import Derived.Test.YtibakhobgfiklaaFpK
namespace Go.Proofs.Ytibakhobgfiklaa
open Go.RowKit Go.Sort

theorem bool_beq {a b : Bool} {c : Bool} (h : decide (a = b) = c) : (a == b) = c := by cases a <;> cases b <;> cases c <;> simp_all
set_option maxRecDepth 100000 in
set_option maxHeartbeats 4000000 in
theorem rval_any (v : Value) (l : List Fp) (hl : l.length ≤ 1000000) (st : Int) (w : World) (h : LstF w v l) : Calls Try.prog 26 #[v, .int .i64 st] w fun e w' => e = .returned (.tuple #[.int .i64 ((vldP st l).1), .int .i64 ((vldP st l).2)]) ∧ Below w.heap.size w w' := by
  have hh := h
  obtain ⟨A, c, rfl, -⟩ := hh
  have H := Lib.hid h
  obtain ⟨q, hq⟩ : ∃ q, vldP st l = q := ⟨_, rfl⟩
  rw [hq]
  have Q1 : Hid (q = fbF (badP st) kyP ((l.take 0).map kyP) 0 (l.drop 0)) := Lib.hid hq.symm
  clear h hq
  go_enter Try.func26, Try.ntmps26
  go_wp2_with fail
  go_loopw [6] (fun i wr => ∃ k : Nat, i = .int .i64 (k : Int) ∧ k ≤ l.length ∧ Hid (q = fbF (badP st) kyP ((l.take k).map kyP) k (l.drop k)) ∧ Hid (RowKit.Below w.heap.size w wr)) (fun i _ => l.length - (intOf i).toNat)
  case atStart => exact ⟨0, rfl, Nat.zero_le _, Q1, Lib.hid (RowKit.Below.refl _ _)⟩
  case round =>
    clear Q1
    obtain ⟨k, rfl, hk, HQ, HB⟩ := hrel
    by_cases hlt : k < l.length
    · obtain ⟨⟨a, b, s, f⟩, hx⟩ := at_lt hlt
      obtain ⟨b', o, rfl, hb, m0, m1, m2, m3⟩ := four_at (H.out.below HB.out) hx
      have gk : (k : Int) < (l.length : Int) := by omega
      obtain ⟨w7, hw7⟩ : ∃ W, wr.alloc (boxF a b s f) = W := ⟨_, rfl⟩
      obtain ⟨b7, p0, p1, p2, p3, s7, c7⟩ := box_fp hw7
      obtain ⟨y0, y1⟩ := box_last hw7
      have B7 := Lib.hid (HB.out.trans (b7.mono HB.out.size))
      have S7 := Lib.hid s7
      have C7 := Lib.hid c7
      have HK := Lib.hid hk
      clear hb b7 c7 s7 HB
      by_cases h1 : a < 0
      · have R := Lib.hid (fb_stop HQ.out hx (badP_from (x := (a, b, s, f)) (by dsimp only; omega)) (by decide))
        clear HQ hx
        go_wp2_with fail
        go_ret2
        exact ⟨ret_q R.out, B7.out⟩
      have d1 : decide (a < 0) = false := decide_eq_false h1
      by_cases h2 : st ≤ a
      · have R := Lib.hid (fb_stop HQ.out hx (badP_from (x := (a, b, s, f)) (by dsimp only; omega)) (by decide))
        clear HQ hx h1
        go_wp2_with fail
        go_ret2
        exact ⟨ret_q R.out, B7.out⟩
      have d2 : decide (st ≤ a) = false := decide_eq_false h2
      by_cases h3 : b < 0
      · have R := Lib.hid (fb_stop HQ.out hx (badP_to (x := (a, b, s, f)) (by dsimp only; omega)) (by decide))
        clear HQ hx h1 h2
        go_wp2_with fail
        go_ret2
        exact ⟨ret_q R.out, B7.out⟩
      have d3 : decide (b < 0) = false := decide_eq_false h3
      by_cases h4 : st ≤ b
      · have R := Lib.hid (fb_stop HQ.out hx (badP_to (x := (a, b, s, f)) (by dsimp only; omega)) (by decide))
        clear HQ hx h1 h2 h3
        go_wp2_with fail
        go_ret2
        exact ⟨ret_q R.out, B7.out⟩
      have d4 : decide (st ≤ b) = false := decide_eq_false h4
      by_cases h5 : a = b
      · have g := beq_true h5
        have R := Lib.hid (fb_stop HQ.out hx (badP_same (x := (a, b, s, f)) h5) (by decide))
        clear HQ hx h1 h2 h3 h4 h5
        go_wp2_with fail
        go_ret2
        exact ⟨ret_q R.out, B7.out⟩
      have g5 := beq_false h5
      by_cases h6 : s < 1
      · have R := Lib.hid (fb_stop HQ.out hx (badP_range (x := (a, b, s, f)) (by dsimp only; omega) (by dsimp only; omega) h5 (by dsimp only; omega)) (by decide))
        clear HQ hx h1 h2 h3 h4
        go_wp2_with fail
        go_ret2
        exact ⟨ret_q R.out, B7.out⟩
      have d6 : decide (s < 1) = false := decide_eq_false h6
      by_cases h7 : 14400 < s
      · have R := Lib.hid (fb_stop HQ.out hx (badP_range (x := (a, b, s, f)) (by dsimp only; omega) (by dsimp only; omega) h5 (by dsimp only; omega)) (by decide))
        clear HQ hx h1 h2 h3 h4 h6
        go_wp2_with fail
        go_ret2
        exact ⟨ret_q R.out, B7.out⟩
      have d7 : decide (14400 < s) = false := decide_eq_false h7
      have OK : Hid (kyP (a, b, s, f) ∉ (l.take k).map kyP → badP st ((l.take k).map kyP) (a, b, s, f) = 0) := fun hn => badP_ok (x := (a, b, s, f)) (by dsimp only; omega) (by dsimp only; omega) h5 (by dsimp only; omega) hn
      have TW : Hid (kyP (a, b, s, f) ∈ (l.take k).map kyP → badP st ((l.take k).map kyP) (a, b, s, f) = 6) := fun hn => badP_twice (x := (a, b, s, f)) (by dsimp only; omega) (by dsimp only; omega) h5 (by dsimp only; omega) hn
      have HX := Lib.hid hx
      clear hx h1 h2 h3 h4 h5 h6 h7
      go_wp2_with fail
      clear d1 d2 d3 d4 g5 d6 d7 hw7 y0 y1
      go_loopw [8] (fun j wx => ∃ i : Nat, j = .int .i64 (i : Int) ∧ i ≤ k ∧ Hid (∀ (e : Nat) y, e < i → l[e]? = some y → kyP y ≠ (a, b, f)) ∧ Hid (RowKit.Below w7.heap.size w7 wx)) (fun j _ => k - (intOf j).toNat)
      case atStart => exact ⟨0, rfl, Nat.zero_le _, Lib.hid (fun e y he => absurd he (Nat.not_lt_zero _)), Lib.hid (RowKit.Below.refl _ _)⟩
      case round =>
        clear m0 m1 m2 m3 p0 p1 p2 p3
        obtain ⟨i, rfl, hi, HN, HB⟩ := hrel
        have BB := Lib.hid (B7.out.trans (HB.out.mono B7.out.size))
        by_cases hik : i < k
        · obtain ⟨⟨a', bb, s', f'⟩, hy⟩ := at_lt (show i < l.length by omega)
          obtain ⟨b2, o2, hA, hb2, n0, n1, n2, n3⟩ := four_at (H.out.below BB.out) hy
          obtain ⟨rfl, rfl⟩ : b' = b2 ∧ o = o2 := by cases hA; exact ⟨rfl, rfl⟩
          obtain ⟨p0, p1, p2, p3⟩ := row_fp ((HB.out.block _ S7.out).trans C7.out)
          have gi : (i : Int) < (k : Int) := by omega
          have gi' : (i : Int) < (l.length : Int) := by omega
          clear hA hb2
          by_cases e1 : a' = a
          · have t1 := beq_true e1
            by_cases e2 : bb = b
            · have t2 := beq_true e2
              by_cases e3 : f' = f
              · have t3 := bool_beq (decide_eq_true e3)
                have R := Lib.hid (fb_stop HQ.out HX.out (TW.out (List.mem_map.2 ⟨(a', bb, s', f'), List.mem_iff_getElem?.2 ⟨i, by rw [List.getElem?_take, if_pos hik]; exact hy⟩, by show (a', bb, f') = (a, b, f); rw [e1, e2, e3]⟩)) (by decide))
                clear HN hy e1 e2 e3
                go_wp2_with fail
                go_quiet (fail)
                have BQ := Lib.hid (below_drewN BB.out nq)
                generalize wr.drewN nq = w2 at BQ ⊢
                clear HB BB n0 n1 n2 n3 p0 p1 p2 p3
                go_wp2_with fail
                go_ret2
                exact ⟨ret_q R.out, BQ.out⟩
              · have t3 := bool_beq (decide_eq_false e3)
                have N : Hid (∀ (e : Nat) y, e < i + 1 → l[e]? = some y → kyP y ≠ (a, b, f)) := by
                  intro e y he hey
                  by_cases h0 : e = i
                  · subst h0
                    rw [hy] at hey
                    cases hey
                    exact fun e => e3 (congrArg (fun z : Int × Int × Bool => z.2.2) e)
                  · exact HN.out e y (by omega) hey
                clear HN hy e1 e2 e3
                go_wp2_with fail
                go_quiet (fail)
                have BQ := Lib.hid (below_drewN HB.out nq)
                generalize wr.drewN nq = w2 at BQ ⊢
                clear HB BB n0 n1 n2 n3 p0 p1 p2 p3
                go_wp2_with fail
                go_roundw
                case rel => exact ⟨i + 1, by go_num, by omega, N, BQ⟩
                case measure => simp [intOf]; omega
            · have t2 := beq_false e2
              have N : Hid (∀ (e : Nat) y, e < i + 1 → l[e]? = some y → kyP y ≠ (a, b, f)) := by
                intro e y he hey
                by_cases h0 : e = i
                · subst h0
                  rw [hy] at hey
                  cases hey
                  exact fun e => e2 (congrArg (fun z : Int × Int × Bool => z.2.1) e)
                · exact HN.out e y (by omega) hey
              clear HN hy e1 e2
              go_wp2_with fail
              go_quiet (fail)
              have BQ := Lib.hid (below_drewN HB.out nq)
              generalize wr.drewN nq = w2 at BQ ⊢
              clear HB BB n0 n1 n2 n3 p0 p1 p2 p3
              go_wp2_with fail
              go_roundw
              case rel => exact ⟨i + 1, by go_num, by omega, N, BQ⟩
              case measure => simp [intOf]; omega
          · have t1 := beq_false e1
            have N : Hid (∀ (e : Nat) y, e < i + 1 → l[e]? = some y → kyP y ≠ (a, b, f)) := by
              intro e y he hey
              by_cases h0 : e = i
              · subst h0
                rw [hy] at hey
                cases hey
                exact fun e => e1 (congrArg (fun z : Int × Int × Bool => z.1) e)
              · exact HN.out e y (by omega) hey
            clear HN hy e1
            go_wp2_with fail
            go_quiet (fail)
            have BQ := Lib.hid (below_drewN HB.out nq)
            generalize wr.drewN nq = w2 at BQ ⊢
            clear HB BB n0 n1 n2 n3 p0 p1 p2 p3
            go_wp2_with fail
            go_roundw
            case rel => exact ⟨i + 1, by go_num, by omega, N, BQ⟩
            case measure => simp [intOf]; omega
        · have d : decide (i < k) = false := by rw [decide_eq_false_iff_not]; exact hik
          have N := Lib.hid (fb_next HQ.out HX.out (OK.out (fun hm => by
            obtain ⟨y, hy, e⟩ := List.mem_map.1 hm
            obtain ⟨j, hj⟩ := List.mem_iff_getElem?.1 hy
            rw [List.getElem?_take] at hj
            split at hj
            · exact HN.out j y (by omega) hj e
            · cases hj)))
          clear hik HN HB
          go_wp2_with fail
          go_roundw
          case rel => exact ⟨k + 1, by go_num, by omega, N, BB⟩
          case measure => simp [intOf]; omega
    · have R : Hid (q = (0, 0)) := fb_done HQ.out (by omega)
      have d : decide (k < l.length) = false := by rw [decide_eq_false_iff_not]; exact hlt
      clear hlt HQ
      go_wp2_with fail
      go_ret2
      exact ⟨ret_q R.out, HB.out⟩
set_option maxHeartbeats 1000000 in
theorem rchk_any (v : Value) (l : List Fp) (hl : l.length ≤ 1000000) (st : Int) (w : World) (h : LstF w v l) : Calls Try.prog 13 #[v, .int .i64 st] w fun e w' => e = .returned (.tuple #[.int .i64 ((chkP st l).1), .int .i64 ((chkP st l).2)]) ∧ Below w.heap.size w w' := by
  have C := Lib.hid (rval_any v l hl st w h)
  obtain ⟨A, c, rfl, -⟩ := h
  by_cases hm : 512 < l.length
  · have g : (512 : Int) < (l.length : Int) := by omega
    rw [chkP_many hm]
    clear hm C
    go_enter Try.func13, Try.ntmps13
    go_wp2_with fail
    go_ret2
    exact ⟨rfl, RowKit.Below.refl _ _⟩
  · have g : decide ((512 : Int) < (l.length : Int)) = false := decide_eq_false (by omega)
    rw [chkP_few hm]
    clear hm
    go_enter Try.func13, Try.ntmps13
    go_wp2_with fail
    refine C.out.mono ?_
    rintro e w1 ⟨rfl, b1⟩
    have B1 := Lib.hid b1
    clear b1 C
    go_wp2_with fail
    go_ret2
    exact ⟨rfl, B1.out⟩
end Go.Proofs.Ytibakhobgfiklaa
