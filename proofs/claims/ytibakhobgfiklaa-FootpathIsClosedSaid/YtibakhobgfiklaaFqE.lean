/-
  The laws of P20.6 and P20.8, with plain facts about the closure that the laws look at: each returns true; nothing that existed before the call has changed behind it. Condition: the lists' numbers are of 64 bits.
-/
import Derived.Test.YtibakhobgfiklaaFqD
namespace Go.Proofs.Ytibakhobgfiklaa
open Go.RowKit Go.Sort

theorem flatn_len {α : Type} {f : α → List Fp} {m : Nat} (hf : ∀ a, (f a).length ≤ m) : ∀ ls : List α, (ls.flatMap f).length ≤ ls.length * m
  | [] => by simp
  | x :: r => by
    rw [List.flatMap_cons, List.length_append, List.length_cons, Nat.succ_mul]
    have := flatn_len hf r
    have := hf x
    omega
theorem ent_two_len (ta tf : Nat → Nat → Option Nat) (i j : Nat) : (entC ta tf i j).length ≤ 2 := by
  unfold entC
  split
  · simp
  · split
    · split <;> simp
    · simp
theorem cloC_len (ta tf : Nat → Nat → Option Nat) (n : Nat) : (cloC ta tf n).length ≤ n * (n * 2) := by
  unfold cloC cloK
  refine Nat.le_trans (flatn_len (m := n * 2) (fun a => ?_) _) (by rw [List.length_range]; exact Nat.le_refl _)
  unfold rowC
  refine Nat.le_trans (flatn_len (m := 2) (fun b => ?_) _) (by rw [List.length_range]; exact Nat.le_refl _)
  split
  · simp
  · exact ent_two_len _ _ _ _
section
variable {st : Int} {l : List Fp}
theorem cls_len (hst : st ≤ 12) : (cloE st l).length ≤ 4096 := by
  refine Nat.le_trans (cloC_len _ _ _) ?_
  have h : st.toNat ≤ 12 := by omega
  have : st.toNat * (st.toNat * 2) ≤ 12 * (12 * 2) := Nat.mul_le_mul h (Nat.mul_le_mul h (Nat.le_refl _))
  omega
theorem cls_short (hst : st ≤ 64) (hok : OkP st.toNat l) {x : Fp} (hx : x ∈ l) : ∃ m, tiF (cloE st l) x.1 x.2.1 x.2.2.2 = some m ∧ 1 ≤ m ∧ m ≤ x.2.2.1 :=
  clo_short hok (tm_spec (ed_inn hok) (by omega)) (tm_spec (ed_inn hok) (by omega)) hx
theorem cls_tri (hst : st ≤ 64) (hok : OkP st.toNat l) {sf : Bool} {x y : Fp} (hx : x ∈ cloE st l) (hy : y ∈ cloE st l) (ux : useP sf x = true) (uy : useP sf y = true) (hxy : x.2.1 = y.1) (hne : x.1 ≠ y.2.1) (hm : x.2.2.1 + y.2.2.1 ≤ 14400) :
    ∃ m, tiF (cloE st l) x.1 y.2.1 sf = some m ∧ m ≤ x.2.2.1 + y.2.2.1 :=
  clo_tri hok (tm_spec (ed_inn hok) (by omega)) (tm_spec (ed_inn hok) (by omega)) hx hy ux uy hxy hne hm
theorem cls_ok (hst : st ≤ 64) (hok : OkP st.toNat l) : OkP st.toNat (cloE st l) :=
  clo_ok hok (tm_spec (ed_inn hok) (by omega)) (tm_spec (ed_inn hok) (by omega))
theorem cls_64 (hst : st ≤ 64) (hok : OkP st.toNat l) : L64 (cloE st l) := by
  intro x hx
  have := cls_ok hst hok x hx
  unfold Ky64 kyP Ix64
  simp only
  omega
theorem cls_same (hst : st ≤ 64) (hok : OkP st.toNat l) : cloE st (cloE st l) = cloE st l :=
  clo_twice (tm_spec (ed_inn hok) (by omega)) (tm_spec (ed_inn hok) (by omega)) (tm_spec (ed_inn (cls_ok hst hok)) (by omega)) (tm_spec (ed_inn (cls_ok hst hok)) (by omega))
theorem cls_vld (hst : st ≤ 64) (hok : OkP st.toNat l) : (vldP st (cloE st l)).2 = 0 := by
  by_cases h : 0 ≤ st
  · have := clo_valid hok (tm_spec (ed_inn hok) (show st.toNat ≤ 128 by omega)) (tm_spec (ed_inn hok) (show st.toNat ≤ 128 by omega))
    rw [show ((st.toNat : Nat) : Int) = st by omega] at this
    unfold cloE
    rw [this]
  · have e : st.toNat = 0 := by omega
    have e2 : cloE st l = [] := by
      unfold cloE
      rw [e]
      rfl
    rw [e2]
    rfl
theorem cls_closed (hst : st ≤ 64) (hok : OkP st.toNat l) : iscF st (cloE st l) = true := by
  unfold iscF
  rw [if_neg (by omega), if_pos (cls_vld hst hok), cls_same hst hok]
  exact decide_eq_true rfl
end
theorem ktime_some (v : Value) (l : List Fp) (hl : l.length ≤ 100000) (fr tt : Int) (sf : Bool) (m : Int) (e : tiF l fr tt sf = some m) (w : World) (h : LstF w v l) : Calls Try.prog 17 #[v, .int .i64 fr, .int .i64 tt, .bool sf] w fun e w' => e = .returned (.tuple #[.int .i64 m, .bool true]) ∧ Below w.heap.size w w' := by
  have := ktime_any v l hl fr tt sf w h
  rw [e] at this
  exact this
theorem two_times (l : List Fp) (st tt : Int) : ∃ (a : Int) (p : Bool) (b : Int) (q : Bool), tiV (tiF l st tt false) = a ∧ tiB (tiF l st tt false) = p ∧ tiV (tiF l st tt true) = b ∧ tiB (tiF l st tt true) = q ∧ (q = false ∨ (q = true ∧ p = true ∧ decide (b < a) = false)) := by
  refine ⟨_, _, _, _, rfl, rfl, rfl, rfl, ?_⟩
  cases h : tiF l st tt true with
  | none => exact .inl rfl
  | some n =>
    obtain ⟨m, e, hm⟩ := ti_free h
    rw [e]
    exact .inr ⟨rfl, rfl, decide_eq_false (by show ¬ n < m; omega)⟩

set_option maxRecDepth 100000 in
set_option maxHeartbeats 4000000 in
theorem free_law (v : Value) (l : List Fp) (_h64 : L64 l) (st tt : Int) (w : World) (h : LstF w v l) : Calls Try.prog 10 #[v, .int .i64 st, .int .i64 tt] w fun e w' => e = .returned (.bool true) ∧ Below w.heap.size w w' := by
  have hh := h
  obtain ⟨A, c, rfl, -⟩ := hh
  have H := Lib.hid h
  clear h
  by_cases h1 : (100 : Int) < (l.length : Int)
  · skip
    have X := Lib.hid (ex_any w)
    clear H
    go_enter Try.func10, Try.ntmps10
    go_wp2_with fail
    refine X.out.mono ?_
    rintro e w1 ⟨rfl, y1⟩
    have B := Lib.hid y1
    clear X y1
    go_wp2_with fail
    go_ret
    exact ⟨rfl, B.out⟩
  have d1 : decide ((100 : Int) < (l.length : Int)) = false := decide_eq_false h1
  have hb : l.length ≤ 100000 := by omega
  have B0 : Hid (RowKit.Below w.heap.size w w) := Lib.hid (RowKit.Below.refl _ _)
  have L0 := H
  clear H h1
  obtain ⟨a, p, b, q, e1, e2, e3, e4, hq⟩ := two_times l st tt
  have n1 : (arF l st 14400 false).length ≤ 100000 := by have := ar_len l st 14400 false; omega
  have n2 : (arF l st 14400 true).length ≤ 100000 := by have := ar_len l st 14400 true; omega
  obtain ⟨f, hf⟩ : ∃ f : Int → Bool, (arF l st 14400 false).filter f = arF l st 14400 true := ⟨_, ar_part l st 14400⟩
  have KA := Lib.hid (fun W hW => karound_any (.slice A l.length c) l hb st 14400 false W hW)
  have KB := Lib.hid (fun W hW => karound_any (.slice A l.length c) l hb st 14400 true W hW)
  generalize arF l st 14400 false = Z at KA n1 hf
  generalize arF l st 14400 true = X at KB n2 hf
  have PW := Lib.hid hf.symm
  have N1 := Lib.hid n1
  have N2 := Lib.hid n2
  clear n1 n2 hf
  have C1 := Lib.hid (ktime_any (.slice A l.length c) l hb st tt false w L0.out)
  rw [e1, e2] at C1
  go_enter Try.func10, Try.ntmps10
  go_wp2_with fail
  refine C1.out.mono ?_
  rintro e w1 ⟨rfl, y1⟩
  have L1 := Lib.hid (L0.out.below y1)
  have B1 := Lib.hid (B0.out.trans (y1.mono B0.out.size))
  clear C1 L0 B0 y1
  have C2 := Lib.hid (ktime_any (.slice A l.length c) l hb st tt true w1 L1.out)
  rw [e3, e4] at C2
  go_wp2_with fail
  refine C2.out.mono ?_
  rintro e w2 ⟨rfl, y2⟩
  have L2 := Lib.hid (L1.out.below y2)
  have B2 := Lib.hid (B1.out.trans (y2.mono B1.out.size))
  clear C2 L1 B1 y2
  clear e1 e2 e3 e4
  rcases hq with rfl | ⟨rfl, rfl, hd⟩
  all_goals
    have C3 := Lib.hid (KA.out _ L2.out)
    go_wp2_with fail
    refine C3.out.mono ?_
    rintro e w3 ⟨v3, rfl, l3, y3⟩
    have P := Lib.hid l3
    clear l3 KA
    have L3 := Lib.hid (L2.out.below y3)
    have B3 := Lib.hid (B2.out.trans (y3.mono B2.out.size))
    clear C3 L2 B2 y3
    have C4 := Lib.hid (KB.out _ L3.out)
    go_wp2_with fail
    refine C4.out.mono ?_
    rintro e w4 ⟨v4, rfl, l4, y4⟩
    have Q := Lib.hid l4
    clear l4 KB
    have L4 := Lib.hid (L3.out.below y4)
    have B4 := Lib.hid (B3.out.trans (y4.mono B3.out.size))
    have P := Lib.hid (P.out.below y4)
    clear C4 L3 B3 y4
    obtain ⟨ZA, zc, rfl, -, -, -⟩ := _root_.id P.out
    obtain ⟨XA, xc, rfl, -, -, -⟩ := _root_.id Q.out
    go_wp2_with fail
    go_loopw [13, 14] (fun u i wr => ∃ a : Nat, u = .int .i64 ((numF f Z a : Nat) : Int) ∧ i = .int .i64 (a : Int) ∧ a ≤ Z.length ∧ Hid (∃ n, wr = w4.drewN n)) (fun _ i _ => Z.length - (intOf i).toNat)
    case atStart => exact ⟨0, rfl, rfl, Nat.zero_le _, Lib.hid ⟨0, rfl⟩⟩
    case round =>
      obtain ⟨a, rfl, rfl, ha, hn⟩ := hrel
      by_cases hlt : a < Z.length
      · obtain ⟨x, hx⟩ := at_lt hlt
        have ga : (a : Int) < (Z.length : Int) := by omega
        have na : a ≤ 100000 := by have := N1.out; omega
        obtain ⟨bz, oz, rfl, -, cz⟩ := int_cell (P.out.below (drew_below hn.out)) hx
        have hb1 := num_le f Z a
        rw [← PW.out] at hb1
        have nb : numF f Z a ≤ 100000 := by have := N2.out; omega
        cases hf : f x with
        | true =>
          have hi : X[numF f Z a]? = some x := by rw [PW.out]; exact num_at hx hf
          have M1 := Lib.hid (num_yes hx hf)
          have gi := (List.getElem?_eq_some_iff.1 hi).1
          obtain ⟨bx, ox, rfl, -, cx⟩ := int_cell (Q.out.below (drew_below hn.out)) hi
          have te := beq_true (a := x) rfl
          generalize numF f Z a = i0 at hi M1 gi cx hb1 nb ⊢
          have gi2 : (i0 : Int) < (X.length : Int) := by omega
          clear hx hf hi hb1 gi
          go_wp2_with fail
          go_quiet (fail)
          have hn2 := drew_on hn nq
          clear hn cz cx
          go_wp2_with fail
          go_roundw
          case rel => exact ⟨a + 1, by rw [M1.out]; go_num, by go_num, by omega, hn2⟩
          case measure => simp [intOf]; omega
        | false =>
          have M1 := Lib.hid (num_no hx hf)
          by_cases hlx : numF f Z a < X.length
          · obtain ⟨y, hy⟩ := at_lt hlx
            have hyx : y ≠ x := num_ne (f := f) (l := Z) (j := numF f Z a) (by rw [← PW.out]; exact hy) hf
            have tn := beq_false hyx
            obtain ⟨bx, ox, rfl, -, cx⟩ := int_cell (Q.out.below (drew_below hn.out)) hy
            generalize numF f Z a = i0 at hy M1 hlx cx hb1 nb ⊢
            have gi2 : (i0 : Int) < (X.length : Int) := by omega
            clear hx hf hy hyx hb1 hlx
            go_wp2_with fail
            go_quiet (fail)
            have hn2 := drew_on hn nq
            clear hn cz cx
            go_wp2_with fail
            go_roundw
            case rel => exact ⟨a + 1, by rw [M1.out], by go_num, by omega, hn2⟩
            case measure => simp [intOf]; omega
          · generalize numF f Z a = i0 at M1 hlx hb1 nb ⊢
            have gi2 : decide ((i0 : Int) < (X.length : Int)) = false := by rw [decide_eq_false_iff_not]; omega
            have gi3 : decide (i0 < X.length) = false := decide_eq_false hlx
            clear hx hf hb1 hlx
            go_wp2_with fail
            go_quiet (fail)
            have hn2 := drew_on hn nq
            clear hn cz
            go_wp2_with fail
            go_roundw
            case rel => exact ⟨a + 1, by rw [M1.out], by go_num, by omega, hn2⟩
            case measure => simp [intOf]; omega
      · have d : decide (a < Z.length) = false := by rw [decide_eq_false_iff_not]; exact hlt
        have e0 : numF f Z a = X.length := by
          unfold numF
          rw [List.take_of_length_le (by omega), ← PW.out]
        rw [e0]
        have te := beq_true (a := (X.length : Int)) rfl
        have X5 := Lib.hid (ex_any wr)
        have B5 := Lib.hid (B4.out.trans ((drew_below hn.out).mono B4.out.size))
        clear hlt ha hn e0
        go_wp2_with fail
        refine X5.out.mono ?_
        rintro e w6 ⟨rfl, y6⟩
        have B6 := Lib.hid (B5.out.trans (y6.mono B5.out.size))
        clear X5 y6 B5
        go_wp2_with fail
        go_ret
        exact ⟨rfl, B6.out⟩
set_option maxRecDepth 100000 in
set_option maxHeartbeats 4000000 in
theorem closure_law (v : Value) (l : List Fp) (h64 : L64 l) (st : Int) (w : World) (h : LstF w v l) : Calls Try.prog 8 #[v, .int .i64 st] w fun e w' => e = .returned (.bool true) ∧ Below w.heap.size w w' := by
  have hh := h
  obtain ⟨A, c, rfl, -⟩ := hh
  have H := Lib.hid h
  clear h
  by_cases h1 : (100 : Int) < (l.length : Int)
  · skip
    have X := Lib.hid (ex_any w)
    clear H
    go_enter Try.func8, Try.ntmps8
    go_wp2_with fail
    refine X.out.mono ?_
    rintro e w1 ⟨rfl, y1⟩
    have B := Lib.hid y1
    clear X y1
    go_wp2_with fail
    go_ret
    exact ⟨rfl, B.out⟩
  have d1 : decide ((100 : Int) < (l.length : Int)) = false := decide_eq_false h1
  by_cases h2 : 12 < st
  · skip
    have X := Lib.hid (ex_any w)
    clear H
    go_enter Try.func8, Try.ntmps8
    go_wp2_with fail
    refine X.out.mono ?_
    rintro e w1 ⟨rfl, y1⟩
    have B := Lib.hid y1
    clear X y1
    go_wp2_with fail
    go_ret
    exact ⟨rfl, B.out⟩
  have d2 : decide (12 < st) = false := decide_eq_false h2
  have hb : l.length ≤ 4096 := by omega
  have H64 := Lib.hid h64
  by_cases hE : (chkP st l).2 = 0
  rotate_left 1
  · have E : clsE st l = (chkP st l).2 := by unfold clsE; rw [if_neg (by omega)]
    have L : clsL st l = [] := by unfold clsL; rw [if_neg (by omega), if_neg hE]
    have t := bne_true hE
    have KC := Lib.hid (kclose_any (.slice A l.length c) l hb st h64 w H.out)
    rw [E, L] at KC
    generalize chkP st l = q at *
    have B0 : Hid (RowKit.Below w.heap.size w w) := Lib.hid (RowKit.Below.refl _ _)
    have L0 := H
    clear H h1
    have C1 := Lib.hid (KC.out)
    go_enter Try.func8, Try.ntmps8
    go_wp2_with fail
    refine C1.out.mono ?_
    rintro e w1 ⟨v1, rfl, l1, y1, -⟩
    obtain ⟨A1, c1, rfl, -⟩ := l1
    have L1 := Lib.hid (L0.out.below y1)
    have B1 := Lib.hid (B0.out.trans (y1.mono B0.out.size))
    clear C1 L0 B0 y1
    have C2 := Lib.hid (ex_any w1)
    go_wp2_with fail
    refine C2.out.mono ?_
    rintro e w2 ⟨rfl, y2⟩
    have L2 := Lib.hid (L1.out.below y2)
    have B2 := Lib.hid (B1.out.trans (y2.mono B1.out.size))
    clear C2 L1 B1 y2
    go_wp2_with fail
    go_ret
    exact ⟨rfl, B2.out⟩
  have E : clsE st l = 0 := by unfold clsE; rw [if_neg (by omega), hE]
  have L : clsL st l = cloE st l := by unfold clsL; rw [if_neg (by omega), if_pos hE]
  have t : ((0 : Int) != 0) = false := rfl
  have hok := chk_ok hE
  have hst : st ≤ 64 := by omega
  have h12 : st ≤ 12 := by omega
  have SH := Lib.hid (fun x hx => cls_short (st := st) (l := l) hst hok (x := x) hx)
  have IC := Lib.hid (fun v W hW => kisc_any v (cloE st l) (cls_len h12) st (cls_64 hst hok) W hW)
  rw [cls_closed hst hok] at IC
  have ND := Lib.hid (cls_len (l := l) h12)
  have KC := Lib.hid (kclose_any (.slice A l.length c) l hb st h64 w H.out)
  rw [E, L] at KC
  clear hE E L hok hst h12 h64 H64
  generalize cloE st l = D at SH IC ND KC
  have B0 : Hid (RowKit.Below w.heap.size w w) := Lib.hid (RowKit.Below.refl _ _)
  have L0 := H
  clear H h1
  have C1 := Lib.hid (KC.out)
  go_enter Try.func8, Try.ntmps8
  go_wp2_with fail
  refine C1.out.mono ?_
  rintro e w1 ⟨v1, rfl, l1, y1, -⟩
  have P := Lib.hid l1
  obtain ⟨A1, c1, rfl, -⟩ := l1
  have L1 := Lib.hid (L0.out.below y1)
  have B1 := Lib.hid (B0.out.trans (y1.mono B0.out.size))
  clear C1 L0 B0 y1
  clear KC
  go_wp2_with fail
  go_loopw [7] (fun i wr => ∃ k : Nat, i = .int .i64 (k : Int) ∧ k ≤ l.length ∧ Hid (RowKit.Below w1.heap.size w1 wr)) (fun i _ => l.length - (intOf i).toNat)
  case atStart => exact ⟨0, rfl, Nat.zero_le _, Lib.hid (RowKit.Below.refl _ _)⟩
  case round =>
    obtain ⟨k, rfl, hk, HB⟩ := hrel
    by_cases hlt : k < l.length
    · obtain ⟨⟨a, b, s, f⟩, hx⟩ := at_lt hlt
      have gk : (k : Int) < (l.length : Int) := by omega
      obtain ⟨b', o, rfl, hbl, m0, m1, m2, m3⟩ := four_at (L1.out.below HB.out) hx
      obtain ⟨m, em, hm1, hm2⟩ := SH.out _ (List.mem_of_getElem? hx)
      have T := Lib.hid (fun W (hW : RowKit.Below wr.heap.size wr W) => rel (ktime_some (.slice A1 D.length c1) D (by have := ND.out; omega) a b f m em W ((P.out.below HB.out).below hW)) hW)
      have HX := Lib.hid hx
      have d3 : decide (m < 1) = false := decide_eq_false (by omega)
      have d4 : decide (s < m) = false := decide_eq_false (by have : m ≤ s := hm2; omega)
      have HBL := Lib.hid hbl
      clear hx em hm1 hm2 hbl
      go_wp2_with fail
      go_region_held3 (fun W => W.cell? ⟨b', o + k * 4, none⟩ = some (.int .i64 a) ∧ W.cell? ⟨b', o + k * 4 + 1, none⟩ = some (.int .i64 b) ∧ W.cell? ⟨b', o + k * 4 + 3, none⟩ = some (.bool f)) (first | assumption | (exact ⟨by assumption, by assumption, by assumption⟩)) (first
        | (go_at_call 17; with_reducible refine (T.out _ (by first | exact RowKit.Below.refl _ _ | exact (RowKit.Below.refl _ _).drew)).mono ?_; rintro e w2 ⟨rfl, y2⟩; have z0 := (y2.cell (p := ⟨b', o + k * 4, none⟩) HBL.out).trans m0; have z1 := (y2.cell (p := ⟨b', o + k * 4 + 1, none⟩) HBL.out).trans m1; have z3 := (y2.cell (p := ⟨b', o + k * 4 + 3, none⟩) HBL.out).trans m3))
      have B2 := Lib.hid (HB.out.trans (y2.mono HB.out.size))
      clear z0 z1 z3
      clear T m0 m1 m2 m3 HB
      obtain ⟨b2, o2, e2, -, m0, m1, m2, m3⟩ := four_at (L1.out.below B2.out) HX.out
      cases e2
      clear y2
      go_wp2_with fail
      go_roundw
      case rel => exact ⟨k + 1, by go_num, by omega, B2⟩
      case measure => simp [intOf]; omega
    · have d : decide (k < l.length) = false := by rw [decide_eq_false_iff_not]; exact hlt
      have I2 := Lib.hid (IC.out (.slice A1 D.length c1) wr (P.out.below HB.out))
      have B2 := Lib.hid (B1.out.trans (HB.out.mono B1.out.size))
      clear hlt hk IC HB
      go_wp2_with fail
      refine I2.out.mono ?_
      rintro e w3 ⟨rfl, y3⟩
      have B3 := Lib.hid (B2.out.trans (y3.mono B2.out.size))
      have X5 := Lib.hid (ex_any w3)
      clear I2 B2 y3
      go_wp2_with fail
      refine X5.out.mono ?_
      rintro e w6 ⟨rfl, y6⟩
      have B6 := Lib.hid (B3.out.trans (y6.mono B3.out.size))
      clear X5 y6 B3
      go_wp2_with fail
      go_ret
      exact ⟨rfl, B6.out⟩
end Go.Proofs.Ytibakhobgfiklaa
