/-
  The meeting of two lists of calls at a stop: firstAlight, firstBoard and Meets of package through, Meets of its reference: what each call answers; nothing that existed before the call has changed behind it. Condition: lists of at most 1000000 calls.
-/
import Derived.Test.YtkballjadkhepaaTmS
namespace Go.Proofs.Ytkballjadkhepaa
open Go.RowKit

/-- An index or none, as it is handed back. -/
def fzV (q : Int) : Int := if q = -1 then 0 else q
def fzB (q : Int) : Bool := decide (q ≠ -1)
theorem ret_fz {q : Int} {k : Nat} (h : q = (k : Int)) : Ending.returned (.tuple #[.int .i64 (k : Int), .bool true]) = .returned (.tuple #[.int .i64 (fzV q), .bool (fzB q)]) := by
  have h1 : q ≠ -1 := by omega
  unfold fzV fzB
  rw [if_neg h1, decide_eq_true h1, h]
theorem ret_fz0 {q : Int} (h : q = -1) : Ending.returned (.tuple #[.int .i64 0, .bool false]) = .returned (.tuple #[.int .i64 (fzV q), .bool (fzB q)]) := by
  unfold fzV fzB
  rw [if_pos h, decide_eq_false (by simp [h])]
theorem fz_no : fzV (-1) = 0 ∧ fzB (-1) = false := ⟨rfl, rfl⟩
theorem fz_yes {q : Int} {k : Nat} (h : q = (k : Int)) : fzV q = (k : Int) ∧ fzB q = true := by
  have h1 : q ≠ -1 := by omega
  unfold fzV fzB
  rw [if_neg h1]
  exact ⟨h, decide_eq_true h1⟩
theorem ret_me {q : Int × Int × Bool} {x y : Int} {z : Bool} (h : q = (x, y, z)) : Ending.returned (.tuple #[.int .i64 x, .int .i64 y, .bool z]) = .returned (.tuple #[.int .i64 q.1, .int .i64 q.2.1, .bool q.2.2]) := by rw [h]
set_option maxRecDepth 100000 in
set_option maxHeartbeats 8000000 in
theorem kal_any (vl : Value) (l : List Cl) (hl : l.length ≤ 1000000) (st : Int) (w : World) (h : LstC w vl l) : Calls Try.prog 31 #[vl, .int .i64 st] w fun e w' => e = .returned (.tuple #[.int .i64 (fzV (alF st 0 l)), .bool (fzB (alF st 0 l))]) ∧ Below w.heap.size w w' := by
  have H := Lib.hid h
  obtain ⟨A, n, rfl, -, -, -⟩ := h
  obtain ⟨q, hq⟩ : ∃ q, alF st 0 l = q := ⟨_, rfl⟩
  rw [hq]
  have HR := Lib.hid hq
  clear hq
  go_enter Try.func31, Try.ntmps31
  go_wp2_with fail
  go_loopw [10] (fun i wr => ∃ k : Nat, i = .int .i64 k ∧ k ≤ l.length ∧ Hid (q = alF st k l) ∧ Hid (Below w.heap.size w wr)) (fun i _ => l.length - (intOf i).toNat)
  case atStart => exact ⟨0, rfl, Nat.zero_le _, Lib.hid HR.out.symm, Lib.hid (Below.refl _ _)⟩
  case round =>
    obtain ⟨k, rfl, hk, hz, HB⟩ := hrel
    by_cases hlt : k < l.length
    · obtain ⟨⟨s, a, d, b, u⟩, hf⟩ := at_lt hlt
      obtain ⟨c, o, rfl, hc, m0, m1, m2, m3, m4⟩ := five_at (H.out.below HB.out) hf
      obtain ⟨w7, hw7⟩ : ∃ W, wr.alloc (boxC s a d b u) = W := ⟨_, rfl⟩
      obtain ⟨b7, p0, p1, p2, p3, p4, s7⟩ := box_cc hw7
      have gk : (k : Int) < (l.length : Int) := by omega
      have B7 : Hid (Below w.heap.size w w7) := HB.out.trans (b7.mono HB.out.size)
      clear b7 s7 HB
      by_cases k0 : k = 0
      · subst k0
        have N : Hid (q = alF st (0 + 1) l) := Lib.hid (al_skip hz.out)
        rw [Nat.zero_mul, Nat.add_zero] at m0 m1 m2 m3 m4
        clear hz hf hc
        go_wp2_with fail
        go_roundw
        case rel => exact ⟨0 + 1, by go_num, by omega, N, B7⟩
        case measure => simp [intOf]; omega
      have gp' : 0 < k := by omega
      have gp : (0 : Int) < (k : Int) := by omega
      by_cases hs : ¬ s = st
      · have g := beq_false hs
        have N := Lib.hid (al_miss hz.out gp' hf (alP_stop (st := st) (x := (s, a, d, b, u)) hs))
        clear hz hf hc hs
        go_wp2_with fail
        go_roundw
        case rel => exact ⟨k + 1, by go_num, by omega, N, B7⟩
        case measure => simp [intOf]; omega
      have hs := Decidable.not_not.1 hs
      have g := beq_true hs
      cases u with
      | false =>
        have N := Lib.hid (al_miss hz.out gp' hf (alP_flag (st := st) (x := (s, a, d, b, false)) rfl))
        obtain ⟨f4, e4⟩ := box_last hw7
        clear hz hf hc hs
        go_wp2_with fail
        go_roundw
        case rel => exact ⟨k + 1, by go_num, by omega, N, B7⟩
        case measure => simp [intOf]; omega
      | true =>
        have R := Lib.hid (al_hit hz.out gp' hf (alP_yes (st := st) (x := (s, a, d, b, true)) hs rfl))
        clear hz hf hc hs HR
        go_wp2_with fail
        go_ret2
        exact ⟨ret_fz R.out, B7.out⟩
    · have R := Lib.hid (al_end hz.out (by omega))
      have dd : decide (k < l.length) = false := by rw [decide_eq_false_iff_not]; exact hlt
      clear hz hlt HR
      go_wp2_with fail
      go_ret2
      exact ⟨ret_fz0 R.out, HB.out⟩
set_option maxRecDepth 100000 in
set_option maxHeartbeats 8000000 in
theorem kbd_any (vl : Value) (l : List Cl) (hl : l.length ≤ 1000000) (st : Int) (w : World) (h : LstC w vl l) : Calls Try.prog 32 #[vl, .int .i64 st] w fun e w' => e = .returned (.tuple #[.int .i64 (fzV (bdF st 0 l)), .bool (fzB (bdF st 0 l))]) ∧ Below w.heap.size w w' := by
  have H := Lib.hid h
  obtain ⟨A, n, rfl, -, -, -⟩ := h
  obtain ⟨q, hq⟩ : ∃ q, bdF st 0 l = q := ⟨_, rfl⟩
  rw [hq]
  have HR := Lib.hid hq
  clear hq
  go_enter Try.func32, Try.ntmps32
  go_wp2_with fail
  go_loopw [10] (fun i wr => ∃ k : Nat, i = .int .i64 k ∧ k ≤ l.length ∧ Hid (q = bdF st k l) ∧ Hid (Below w.heap.size w wr)) (fun i _ => l.length - (intOf i).toNat)
  case atStart => exact ⟨0, rfl, Nat.zero_le _, Lib.hid HR.out.symm, Lib.hid (Below.refl _ _)⟩
  case round =>
    obtain ⟨k, rfl, hk, hz, HB⟩ := hrel
    by_cases hlt : k < l.length
    · obtain ⟨⟨s, a, d, b, u⟩, hf⟩ := at_lt hlt
      obtain ⟨c, o, rfl, hc, m0, m1, m2, m3, m4⟩ := five_at (H.out.below HB.out) hf
      obtain ⟨w7, hw7⟩ : ∃ W, wr.alloc (boxC s a d b u) = W := ⟨_, rfl⟩
      obtain ⟨b7, p0, p1, p2, p3, p4, s7⟩ := box_cc hw7
      have gk : (k : Int) < (l.length : Int) := by omega
      have B7 : Hid (Below w.heap.size w w7) := HB.out.trans (b7.mono HB.out.size)
      clear b7 s7 HB
      obtain ⟨m, hm⟩ : ∃ m, l.length - 1 = m := ⟨_, rfl⟩
      have e1 : (l.length : Int) - 1 = (m : Int) := by omega
      have mle : m ≤ 1000000 := by omega
      have wm : IntKind.i64.wrap (m : Int) = (m : Int) := IntWalk.i64_in _ (by omega)
      by_cases km : ¬ k < m
      · have d1 : decide (k < m) = false := by rw [decide_eq_false_iff_not]; exact km
        have d2 : decide ((k : Int) < (m : Int)) = false := by rw [decide_eq_false_iff_not]; omega
        have N : Hid (q = bdF st (k + 1) l) := Lib.hid ((bd_end hz.out (by omega)).trans (bd_end (st := st) (k := k + 1) rfl (by omega)).symm)
        clear hz hf hc hm km
        go_wp2_with fail
        go_roundw
        case rel => exact ⟨k + 1, by go_num, by omega, N, B7⟩
        case measure => simp [intOf]; omega
      have km := Decidable.not_not.1 km
      have gm : (k : Int) < (m : Int) := by omega
      have hkm : k < l.length - 1 := by omega
      clear hm
      by_cases hs : ¬ s = st
      · have g := beq_false hs
        have N := Lib.hid (bd_miss hz.out hf hkm (bdP_stop (st := st) (x := (s, a, d, b, u)) hs))
        clear hz hf hc hs hkm
        go_wp2_with fail
        go_roundw
        case rel => exact ⟨k + 1, by go_num, by omega, N, B7⟩
        case measure => simp [intOf]; omega
      have hs := Decidable.not_not.1 hs
      have g := beq_true hs
      cases b with
      | false =>
        have N := Lib.hid (bd_miss hz.out hf hkm (bdP_flag (st := st) (x := (s, a, d, false, u)) rfl))
        clear hz hf hc hs hkm
        go_wp2_with fail
        go_roundw
        case rel => exact ⟨k + 1, by go_num, by omega, N, B7⟩
        case measure => simp [intOf]; omega
      | true =>
        have R := Lib.hid (bd_hit hz.out hf hkm (bdP_yes (st := st) (x := (s, a, d, true, u)) hs rfl))
        clear hz hf hc hs hkm HR
        go_wp2_with fail
        go_ret2
        exact ⟨ret_fz R.out, B7.out⟩
    · have R := Lib.hid ((fun h1 h2 => bd_end h1 (Nat.le_trans (Nat.sub_le _ _) h2)) hz.out (by omega))
      have dd : decide (k < l.length) = false := by rw [decide_eq_false_iff_not]; exact hlt
      clear hz hlt HR
      go_wp2_with fail
      go_ret2
      exact ⟨ret_fz0 R.out, HB.out⟩
set_option maxRecDepth 100000 in
set_option maxHeartbeats 8000000 in
theorem kme_any (va vb : Value) (a b : List Cl) (ha : a.length ≤ 1000000) (hb : b.length ≤ 1000000) (st : Int) (w : World) (h1 : LstC w va a) (h2 : LstC w vb b) : Calls Try.prog 22 #[va, vb, .int .i64 st] w fun e w' => e = .returned (.tuple #[.int .i64 ((meT st a b).1), .int .i64 ((meT st a b).2.1), .bool ((meT st a b).2.2)]) ∧ Below w.heap.size w w' := by
  have H1 := Lib.hid h1
  have H2 := Lib.hid h2
  obtain ⟨A, n, rfl, -, -, -⟩ := h1
  obtain ⟨B, m, rfl, -, -, -⟩ := h2
  have C1 := Lib.hid (kal_any (.slice A a.length n) a ha st w H1.out)
  have C2 := Lib.hid (fun W (hW : Below w.heap.size w W) => kbd_any (.slice B b.length m) b hb st W (H2.out.below hW))
  obtain ⟨q, hq⟩ : ∃ q, meT st a b = q := ⟨_, rfl⟩
  rw [hq]
  have HQ := Lib.hid hq
  clear hq
  by_cases n1 : alF st 0 a = -1
  · have R : Hid (q = (0, 0, false)) := HQ.out.symm.trans (me_from n1)
    rw [n1, fz_no.1, fz_no.2] at C1
    generalize fzV (bdF st 0 b) = x2 at C2
    generalize fzB (bdF st 0 b) = y2 at C2
    clear n1 HQ
    go_enter Try.func22, Try.ntmps22
    go_wp2_with fail
    refine C1.out.mono ?_
    rintro e w1 ⟨rfl, b1⟩
    have B1 : Hid (Below w.heap.size w w1) := b1
    have K2 := Lib.hid (C2.out w1 b1)
    clear b1 C1 C2
    go_wp2_with fail
    refine K2.out.mono ?_
    rintro e w2 ⟨rfl, b2⟩
    have B2 : Hid (Below w.heap.size w w2) := B1.out.trans (b2.mono B1.out.size)
    clear b2 K2 B1
    go_wp2_with fail
    go_quiet (fail)
    have B3 : Hid (Below w.heap.size w (w2.drewN nq)) := below_drewN B2.out nq
    generalize w2.drewN nq = w3 at B3 ⊢
    go_wp2_with fail
    go_ret3
    exact ⟨ret_me R.out, B3.out⟩
  rcases al_is st a with e | ⟨i, ⟨xs, xa, xd, xb, xu⟩, i1, -, ix, -⟩
  · exact absurd e n1
  rw [(fz_yes i1).1, (fz_yes i1).2] at C1
  by_cases n2 : bdF st 0 b = -1
  · have R : Hid (q = (0, 0, false)) := HQ.out.symm.trans (me_to n2)
    rw [n2, fz_no.1, fz_no.2] at C2
    clear n1 n2 HQ i1 ix
    go_enter Try.func22, Try.ntmps22
    go_wp2_with fail
    refine C1.out.mono ?_
    rintro e w1 ⟨rfl, b1⟩
    have B1 : Hid (Below w.heap.size w w1) := b1
    have K2 := Lib.hid (C2.out w1 b1)
    clear b1 C1 C2
    go_wp2_with fail
    refine K2.out.mono ?_
    rintro e w2 ⟨rfl, b2⟩
    have B2 : Hid (Below w.heap.size w w2) := B1.out.trans (b2.mono B1.out.size)
    clear b2 K2 B1
    go_wp2_with fail
    go_quiet (fail)
    have B3 : Hid (Below w.heap.size w (w2.drewN nq)) := below_drewN B2.out nq
    generalize w2.drewN nq = w3 at B3 ⊢
    go_wp2_with fail
    go_ret3
    exact ⟨ret_me R.out, B3.out⟩
  rcases bd_is st b with e | ⟨k, ⟨ys, ya, yd, yb, yu⟩, k1, -, kx, -⟩
  · exact absurd e n2
  rw [(fz_yes k1).1, (fz_yes k1).2] at C2
  have IX := Lib.hid ix
  have KX := Lib.hid kx
  have gi : (i : Int) < (a.length : Int) := by have := (List.getElem?_eq_some_iff.1 ix).1; omega
  have gk : (k : Int) < (b.length : Int) := by have := (List.getElem?_eq_some_iff.1 kx).1; omega
  by_cases lt : yd < xa
  · have R : Hid (q = (0, 0, false)) := HQ.out.symm.trans (me_late i1 k1 ix kx lt)
    clear n1 n2 HQ i1 k1 ix kx
    go_enter Try.func22, Try.ntmps22
    go_wp2_with fail
    refine C1.out.mono ?_
    rintro e w1 ⟨rfl, b1⟩
    have B1 : Hid (Below w.heap.size w w1) := b1
    have K2 := Lib.hid (C2.out w1 b1)
    clear b1 C1 C2
    go_wp2_with fail
    refine K2.out.mono ?_
    rintro e w2 ⟨rfl, b2⟩
    have B2 : Hid (Below w.heap.size w w2) := B1.out.trans (b2.mono B1.out.size)
    clear b2 K2 B1
    obtain ⟨c, o, rfl, -, p0, p1, p2, p3, p4⟩ := five_at (H1.out.below B2.out) IX.out
    obtain ⟨c', o', rfl, -, q0, q1, q2, q3, q4⟩ := five_at (H2.out.below B2.out) KX.out
    go_wp2_with fail
    go_quiet (fail)
    have B3 : Hid (Below w.heap.size w (w2.drewN nq)) := below_drewN B2.out nq
    generalize w2.drewN nq = w3 at B3 ⊢
    go_wp2_with fail
    go_ret3
    exact ⟨ret_me R.out, B3.out⟩
  have nl : decide (yd < xa) = false := decide_eq_false lt
  have R : Hid (q = ((i : Int), (k : Int), true)) := HQ.out.symm.trans (me_yes i1 k1 ix kx lt)
  clear n1 n2 HQ i1 k1 ix kx lt
  go_enter Try.func22, Try.ntmps22
  go_wp2_with fail
  refine C1.out.mono ?_
  rintro e w1 ⟨rfl, b1⟩
  have B1 : Hid (Below w.heap.size w w1) := b1
  have K2 := Lib.hid (C2.out w1 b1)
  clear b1 C1 C2
  go_wp2_with fail
  refine K2.out.mono ?_
  rintro e w2 ⟨rfl, b2⟩
  have B2 : Hid (Below w.heap.size w w2) := B1.out.trans (b2.mono B1.out.size)
  clear b2 K2 B1
  obtain ⟨c, o, rfl, -, p0, p1, p2, p3, p4⟩ := five_at (H1.out.below B2.out) IX.out
  obtain ⟨c', o', rfl, -, q0, q1, q2, q3, q4⟩ := five_at (H2.out.below B2.out) KX.out
  go_wp2_with fail
  go_quiet (fail)
  have B3 : Hid (Below w.heap.size w (w2.drewN nq)) := below_drewN B2.out nq
  generalize w2.drewN nq = w3 at B3 ⊢
  go_wp2_with fail
  go_ret3
  exact ⟨ret_me R.out, B3.out⟩
set_option maxRecDepth 100000 in
set_option maxHeartbeats 8000000 in
theorem rme_any (va vb : Value) (a b : List Cl) (ha : a.length ≤ 1000000) (hb : b.length ≤ 1000000) (st : Int) (w : World) (h1 : LstC w va a) (h2 : LstC w vb b) : Calls Try.prog 23 #[va, vb, .int .i64 st] w fun e w' => e = .returned (.tuple #[.int .i64 ((meT st a b).1), .int .i64 ((meT st a b).2.1), .bool ((meT st a b).2.2)]) ∧ Below w.heap.size w w' := by
  have H1 := Lib.hid h1
  have H2 := Lib.hid h2
  obtain ⟨A, n, rfl, -, -, -⟩ := h1
  obtain ⟨B, m, rfl, -, -, -⟩ := h2
  obtain ⟨q, hq⟩ : ∃ q, meT st a b = q := ⟨_, rfl⟩
  rw [hq]
  have HQ := Lib.hid hq
  obtain ⟨qa, hqa⟩ : ∃ qa, alF st 0 a = qa := ⟨_, rfl⟩
  have HA := Lib.hid hqa
  obtain ⟨qb, hqb⟩ : ∃ qb, bdF st 0 b = qb := ⟨_, rfl⟩
  have HS : Hid (qb = bdF st 0 b) := hqb.symm
  clear hq hqa hqb
  go_enter Try.func23, Try.ntmps23
  go_wp2_with fail
  go_loop [9] (fun i => ∃ k : Nat, i = .int .i64 k ∧ 1 ≤ k ∧ k ≤ a.length + 1 ∧ Hid (qa = alF st k a)) (fun i => a.length + 1 - (intOf i).toNat)
  case atStart => exact ⟨1, rfl, Nat.le_refl _, by omega, Lib.hid (al_skip HA.out.symm)⟩
  case round =>
    obtain ⟨i, rfl, hi1, hi2, hz⟩ := hrel
    by_cases hlt : i < a.length
    · obtain ⟨⟨xs, xa, xd, xb, xu⟩, hx⟩ := at_lt hlt
      obtain ⟨c, o, rfl, -, p0, p1, p2, p3, p4⟩ := five_at H1.out hx
      have gi : (i : Int) < (a.length : Int) := by omega
      by_cases hs : ¬ xs = st
      · have g := bne_true hs
        have N := Lib.hid (al_miss hz.out hi1 hx (alP_stop (st := st) (x := (xs, xa, xd, xb, xu)) hs))
        clear hz hx hs
        go_wp2_with fail
        go_round
        case rel => exact ⟨i + 1, by go_num, by omega, by omega, N⟩
        case measure => simp [intOf]; omega
      have hs := Decidable.not_not.1 hs
      have g := neq_false hs
      cases xu with
      | false =>
        have N := Lib.hid (al_miss hz.out hi1 hx (alP_flag (st := st) (x := (xs, xa, xd, xb, false)) rfl))
        clear hz hx hs
        go_wp2_with fail
        go_round
        case rel => exact ⟨i + 1, by go_num, by omega, by omega, N⟩
        case measure => simp [intOf]; omega
      | true =>
        have I1 : Hid (alF st 0 a = (i : Int)) := HA.out.trans (al_hit hz.out hi1 hx (alP_yes (st := st) (x := (xs, xa, xd, xb, true)) hs rfl))
        have IX := Lib.hid hx
        clear hz hx hs
        go_wp2_with fail
        go_loop [10] (fun j => ∃ k : Nat, j = .int .i64 k ∧ k ≤ b.length ∧ Hid (qb = bdF st k b)) (fun j => b.length - (intOf j).toNat)
        case atStart => exact ⟨0, rfl, Nat.zero_le _, HS⟩
        case round =>
          obtain ⟨k, rfl, hk, hz⟩ := hrel
          by_cases hkt : k + 1 < b.length
          · obtain ⟨⟨ys, ya, yd, yb, yu⟩, hy⟩ := at_lt (l := b) (k := k) (by omega)
            obtain ⟨c', o', rfl, -, q0, q1, q2, q3, q4⟩ := five_at H2.out hy
            have gk : (k : Int) + 1 < (b.length : Int) := by omega
            have gk' : (k : Int) < (b.length : Int) := by omega
            by_cases hs2 : ¬ ys = st
            · have g2 := beq_false hs2
              have N := Lib.hid (bd_miss hz.out hy (by omega) (bdP_stop (st := st) (x := (ys, ya, yd, yb, yu)) hs2))
              clear hz hy hs2
              go_wp2_with fail
              go_round
              case rel => exact ⟨k + 1, by go_num, by omega, N⟩
              case measure => simp [intOf]; omega
            have hs2 := Decidable.not_not.1 hs2
            have g2 := beq_true hs2
            cases yb with
            | false =>
              have N := Lib.hid (bd_miss hz.out hy (by omega) (bdP_flag (st := st) (x := (ys, ya, yd, false, yu)) rfl))
              clear hz hy hs2
              go_wp2_with fail
              go_round
              case rel => exact ⟨k + 1, by go_num, by omega, N⟩
              case measure => simp [intOf]; omega
            | true =>
              have K1 : bdF st 0 b = (k : Int) := HS.out.symm.trans (bd_hit hz.out hy (by omega) (bdP_yes (st := st) (x := (ys, ya, yd, true, yu)) hs2 rfl))
              by_cases lt : yd < xa
              · have R : Hid (q = (0, 0, false)) := HQ.out.symm.trans (me_late I1.out K1 IX.out hy lt)
                clear hz hy hs2 K1
                go_wp2_with fail
                go_quiet (fail)
                go_wp2_with fail
                go_ret3
                exact ⟨ret_me R.out, below_drewN (Below.refl _ _) _⟩
              · have R : Hid (q = ((i : Int), (k : Int), true)) := HQ.out.symm.trans (me_yes I1.out K1 IX.out hy lt)
                have nl : decide (yd < xa) = false := decide_eq_false lt
                clear hz hy hs2 K1 lt
                go_wp2_with fail
                go_quiet (fail)
                go_wp2_with fail
                go_ret3
                exact ⟨ret_me R.out, below_drewN (Below.refl _ _) _⟩
          · have dd : decide ((k : Int) + 1 < (b.length : Int)) = false := by rw [decide_eq_false_iff_not]; omega
            have d2 : decide (k + 1 < b.length) = false := by rw [decide_eq_false_iff_not]; exact hkt
            have R : Hid (q = (0, 0, false)) := HQ.out.symm.trans (me_to (HS.out.symm.trans (bd_end hz.out (by omega))))
            clear hz hkt
            go_wp2_with fail
            go_ret3
            exact ⟨ret_me R.out, Below.refl _ _⟩
    · have R : Hid (q = (0, 0, false)) := HQ.out.symm.trans (me_from (HA.out.trans (al_end hz.out (by omega))))
      have dd : decide (i < a.length) = false := by rw [decide_eq_false_iff_not]; exact hlt
      clear hz hlt
      go_wp2_with fail
      go_ret3
      exact ⟨ret_me R.out, Below.refl _ _⟩
end Go.Proofs.Ytkballjadkhepaa
