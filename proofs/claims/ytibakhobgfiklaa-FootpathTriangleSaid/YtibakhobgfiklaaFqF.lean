/-
  The law of P20.7: it returns true; nothing that existed before the call has changed behind it. Condition: the list's numbers are of 64 bits.
-/
import Derived.Test.YtibakhobgfiklaaFqE
namespace Go.Proofs.Ytibakhobgfiklaa
open Go.RowKit Go.Sort

set_option maxRecDepth 100000 in
set_option maxHeartbeats 4000000 in
theorem tri_law (v : Value) (l : List Fp) (h64 : L64 l) (st : Int) (sf : Bool) (w : World) (h : LstF w v l) : Calls Try.prog 9 #[v, .int .i64 st, .bool sf] w fun e w' => e = .returned (.bool true) ∧ Below w.heap.size w w' := by
  have hh := h
  obtain ⟨A, c, rfl, -⟩ := hh
  have H := Lib.hid h
  clear h
  by_cases h1 : (100 : Int) < (l.length : Int)
  · skip
    have X := Lib.hid (ex_any w)
    clear H
    go_enter Try.func9, Try.ntmps9
    go_wp2_with fail
    refine X.out.mono ?_
    rintro e w1 ⟨rfl, y1⟩
    have B := Lib.hid y1
    clear X y1
    go_wp2_with fail
    go_ret
    exact ⟨rfl, B.out⟩
  have d1 : decide ((100 : Int) < (l.length : Int)) = false := decide_eq_false h1
  by_cases h2 : 12 < st
  · skip
    have X := Lib.hid (ex_any w)
    clear H
    go_enter Try.func9, Try.ntmps9
    go_wp2_with fail
    refine X.out.mono ?_
    rintro e w1 ⟨rfl, y1⟩
    have B := Lib.hid y1
    clear X y1
    go_wp2_with fail
    go_ret
    exact ⟨rfl, B.out⟩
  have d2 : decide (12 < st) = false := decide_eq_false h2
  have hb : l.length ≤ 4096 := by omega
  have H64 := Lib.hid h64
  by_cases hE : (chkP st l).2 = 0
  rotate_left 1
  · have E : clsE st l = (chkP st l).2 := by unfold clsE; rw [if_neg (by omega)]
    have L : clsL st l = [] := by unfold clsL; rw [if_neg (by omega), if_neg hE]
    have t := bne_true hE
    have KC := Lib.hid (kclose_any (.slice A l.length c) l hb st h64 w H.out)
    rw [E, L] at KC
    generalize chkP st l = q at *
    have B0 : Hid (RowKit.Below w.heap.size w w) := Lib.hid (RowKit.Below.refl _ _)
    have L0 := H
    clear H h1
    have C1 := Lib.hid (KC.out)
    go_enter Try.func9, Try.ntmps9
    go_wp2_with fail
    refine C1.out.mono ?_
    rintro e w1 ⟨v1, rfl, l1, y1, -⟩
    obtain ⟨A1, c1, rfl, -⟩ := l1
    have L1 := Lib.hid (L0.out.below y1)
    have B1 := Lib.hid (B0.out.trans (y1.mono B0.out.size))
    clear C1 L0 B0 y1
    have C2 := Lib.hid (ex_any w1)
    go_wp2_with fail
    refine C2.out.mono ?_
    rintro e w2 ⟨rfl, y2⟩
    have L2 := Lib.hid (L1.out.below y2)
    have B2 := Lib.hid (B1.out.trans (y2.mono B1.out.size))
    clear C2 L1 B1 y2
    go_wp2_with fail
    go_ret
    exact ⟨rfl, B2.out⟩
  have E : clsE st l = 0 := by unfold clsE; rw [if_neg (by omega), hE]
  have L : clsL st l = cloE st l := by unfold clsL; rw [if_neg (by omega), if_pos hE]
  have t : ((0 : Int) != 0) = false := rfl
  have hok := chk_ok hE
  have hst : st ≤ 64 := by omega
  have h12 : st ≤ 12 := by omega
  have TR := Lib.hid (fun x hx y hy => cls_tri (st := st) (l := l) hst hok (sf := sf) (x := x) (y := y) hx hy)
  have RG : Hid (∀ x ∈ cloE st l, 1 ≤ x.2.2.1 ∧ x.2.2.1 ≤ 14400) := Lib.hid (fun x hx => (cls_ok hst hok x hx).2.2.2)
  have ND := Lib.hid (cls_len (l := l) h12)
  have KC := Lib.hid (kclose_any (.slice A l.length c) l hb st h64 w H.out)
  rw [E, L] at KC
  clear hE E L hok hst h12 h64 H64
  generalize cloE st l = D at TR RG ND KC
  have B0 : Hid (RowKit.Below w.heap.size w w) := Lib.hid (RowKit.Below.refl _ _)
  have L0 := H
  clear H h1
  have C1 := Lib.hid (KC.out)
  go_enter Try.func9, Try.ntmps9
  go_wp2_with fail
  refine C1.out.mono ?_
  rintro e w1 ⟨v1, rfl, l1, y1, -⟩
  have P := Lib.hid l1
  obtain ⟨A1, c1, rfl, -⟩ := l1
  have L1 := Lib.hid (L0.out.below y1)
  have B1 := Lib.hid (B0.out.trans (y1.mono B0.out.size))
  clear C1 L0 B0 y1
  clear KC L1
  have nd : D.length ≤ 4096 := ND.out
  go_wp2_with fail
  go_loopw [9] (fun i wr => ∃ k : Nat, i = .int .i64 (k : Int) ∧ k ≤ D.length ∧ Hid (RowKit.Below w1.heap.size w1 wr)) (fun i _ => D.length - (intOf i).toNat)
  case atStart => exact ⟨0, rfl, Nat.zero_le _, Lib.hid (RowKit.Below.refl _ _)⟩
  case round =>
    obtain ⟨k, rfl, hk, HB⟩ := hrel
    by_cases hlt : k < D.length
    · obtain ⟨⟨xa, xb, xs, xf⟩, hx⟩ := at_lt hlt
      have gk : (k : Int) < (D.length : Int) := by omega
      have HX := Lib.hid hx
      have RX := RG.out _ (List.mem_of_getElem? hx)
      have rx1 : 1 ≤ xs := RX.1
      have rx2 : xs ≤ 14400 := RX.2
      have a1 : decide (xs < 1) = false := decide_eq_false (by omega)
      have a2 : decide (14400 < xs) = false := decide_eq_false (by omega)
      have HR := Lib.hid (And.intro rx1 rx2)
      clear hx RX rx1 rx2
      go_wp2_with fail
      go_loopw [10] (fun i wx => ∃ q : Nat, i = .int .i64 (q : Int) ∧ q ≤ D.length ∧ Hid (RowKit.Below w1.heap.size w1 wx)) (fun i _ => D.length - (intOf i).toNat)
      case atStart => exact ⟨0, rfl, Nat.zero_le _, HB⟩
      case round =>
        clear HB
        obtain ⟨q, rfl, hq, HC⟩ := hrel
        by_cases hlq : q < D.length
        · obtain ⟨⟨ya, yb, ys, yf⟩, hy⟩ := at_lt hlq
          have gq : (q : Int) < (D.length : Int) := by omega
          have HY := Lib.hid hy
          have RY := RG.out _ (List.mem_of_getElem? hy)
          have ry1 : 1 ≤ ys := RY.1
          have ry2 : ys ≤ 14400 := RY.2
          have b1 : decide (ys < 1) = false := decide_eq_false (by omega)
          have b2 : decide (14400 < ys) = false := decide_eq_false (by omega)
          have HS := Lib.hid (And.intro ry1 ry2)
          clear hy RY ry1 ry2
          obtain ⟨bd, od, eA, hbd, x0, x1, x2, x3⟩ := four_at (P.out.below HC.out) HX.out
          subst eA
          obtain ⟨bd', od', eB, -, y0, y1, y2, y3⟩ := four_at (P.out.below HC.out) HY.out
          cases eB
          have HBD := Lib.hid hbd
          clear hbd
          by_cases e1 : xb = ya
          rotate_left 1
          · have t1 := bne_true (a := xb) (b := ya) e1
            clear e1 HBD
            go_wp2_with fail
            go_quiet (fail)
            have H9 := Lib.hid (below_drewN HC.out nq)
            clear x0 x1 x2 x3 y0 y1 y2 y3 HC
            go_wp2_with fail
            go_roundw
            case rel => exact ⟨q + 1, by go_num, by omega, H9⟩
            case measure => simp [intOf]; omega
          have t1 := neq_false (a := xb) (b := ya) e1
          by_cases e2 : xa = yb
          · have t2 := beq_true (a := xa) (b := yb) e2
            clear e1 e2 HBD
            go_wp2_with fail
            go_quiet (fail)
            have H9 := Lib.hid (below_drewN HC.out nq)
            clear x0 x1 x2 x3 y0 y1 y2 y3 HC
            go_wp2_with fail
            go_roundw
            case rel => exact ⟨q + 1, by go_num, by omega, H9⟩
            case measure => simp [intOf]; omega
          have t2 := beq_false (a := xa) (b := yb) e2
          by_cases e3 : sf = true ∧ xf = false
          · obtain ⟨rfl, rfl⟩ := e3
            clear e1 e2 HBD
            go_wp2_with fail
            go_quiet (fail)
            have H9 := Lib.hid (below_drewN HC.out nq)
            clear x0 x1 x2 x3 y0 y1 y2 y3 HC
            go_wp2_with fail
            go_roundw
            case rel => exact ⟨q + 1, by go_num, by omega, H9⟩
            case measure => simp [intOf]; omega
          by_cases e4 : sf = true ∧ yf = false
          · have exf : xf = true := by cases xf with
            | true => rfl
            | false => exact absurd ⟨e4.1, rfl⟩ e3
            obtain ⟨rfl, rfl⟩ := e4
            subst exf
            clear e1 e2 e3 HBD
            go_wp2_with fail
            go_quiet (fail)
            have H9 := Lib.hid (below_drewN HC.out nq)
            clear x0 x1 x2 x3 y0 y1 y2 y3 HC
            go_wp2_with fail
            go_roundw
            case rel => exact ⟨q + 1, by go_num, by omega, H9⟩
            case measure => simp [intOf]; omega
          have ux : useP sf (xa, xb, xs, xf) = true := by cases sf <;> cases xf <;> simp [useP] at e3 ⊢
          have uy : useP sf (ya, yb, ys, yf) = true := by cases sf <;> cases yf <;> simp [useP] at e4 ⊢
          have TT : Hid (xs + ys ≤ 14400 → ∃ m, tiF D xa yb sf = some m ∧ m ≤ xs + ys) := Lib.hid (fun hm => TR.out _ (List.mem_of_getElem? HX.out) _ (List.mem_of_getElem? HY.out) ux uy e1 e2 hm)
          have hcase : (sf = false) ∨ (sf = true ∧ xf = true ∧ yf = true) := by cases sf <;> cases xf <;> cases yf <;> simp at e3 e4 ⊢
          clear ux uy e1 e2 e3 e4
          obtain ⟨z, hz⟩ : ∃ z, tiF D xa yb sf = z := ⟨_, rfl⟩
          have KT := Lib.hid (fun W (hW : RowKit.Below w1.heap.size w1 W) => ktime_any (.slice (some ⟨bd, od, none⟩) D.length c1) D (by have := ND.out; omega) xa yb sf W (P.out.below hW))
          rw [hz] at TT KT
          clear hz
          obtain ⟨n, ok, en, eo, hno⟩ : ∃ (n : Int) (ok : Bool), tiV z = n ∧ tiB z = ok ∧ (xs + ys ≤ 14400 → ok = true ∧ n ≤ xs + ys) := by
            refine ⟨_, _, rfl, rfl, fun hm => ?_⟩
            obtain ⟨m, e, h⟩ := TT.out hm
            rw [e]
            exact ⟨rfl, h⟩
          rw [en, eo] at KT
          have NO := Lib.hid hno
          clear en eo hno TT
          rcases hcase with rfl | ⟨rfl, rfl, rfl⟩
          all_goals
            go_wp2_with fail
            go_quiet (fail)
            have HC2 := Lib.hid (below_drewN HC.out nq)
            obtain ⟨w5, hw5⟩ : ∃ W, wr.drewN nq = W := ⟨_, rfl⟩
            rw [hw5] at HC2 ⊢
            have HBE : Hid (bd < w5.heap.size) := Lib.hid (by rw [← hw5]; exact HBD.out)
            clear x0 x1 x2 x3 y0 y1 y2 y3 HC HBD hw5
            obtain ⟨bd1, od1, eB, -, x0, x1, x2, x3⟩ := four_at (P.out.below HC2.out) HX.out
            cases eB
            obtain ⟨bd2, od2, eB, -, y0, y1, y2, y3⟩ := four_at (P.out.below HC2.out) HY.out
            cases eB
            have T := Lib.hid (fun W (hW : RowKit.Below w5.heap.size w5 W) => rel (KT.out W (HC2.out.trans (hW.mono HC2.out.size))) hW)
            clear KT
            go_wp2_with fail
            go_region_held3 (fun W => W.cell? ⟨bd, od + k * 4, none⟩ = some (.int .i64 xa) ∧ W.cell? ⟨bd, od + q * 4 + 1, none⟩ = some (.int .i64 yb)) (first | assumption | (exact ⟨by assumption, by assumption⟩)) (first
              | (go_at_call 17; with_reducible refine (T.out _ (by first | exact RowKit.Below.refl _ _ | exact (RowKit.Below.refl _ _).drew)).mono ?_; rintro e w6 ⟨rfl, b6⟩; have z0 := (b6.cell (p := ⟨bd, od + k * 4, none⟩) HBE.out).trans x0; have z1 := (b6.cell (p := ⟨bd, od + q * 4 + 1, none⟩) HBE.out).trans y1))
            have HC3 := Lib.hid (HC2.out.trans (b6.mono HC2.out.size))
            clear z0 z1 T b6 x0 x1 x2 x3 y0 y1 y2 y3 HC2 HBE a1 a2 b1 b2
            obtain ⟨bd1, od1, eB, -, x0, x1, x2, x3⟩ := four_at (P.out.below HC3.out) HX.out
            cases eB
            obtain ⟨bd2, od2, eB, -, y0, y1, y2, y3⟩ := four_at (P.out.below HC3.out) HY.out
            cases eB
            have wi : IntKind.i64.wrap (xs + ys) = xs + ys := IntWalk.i64_in _ (by have := HR.out; have := HS.out; omega)
            by_cases hm : xs + ys ≤ 14400
            · obtain ⟨rfl, hn⟩ := NO.out hm
              have d4 : decide (xs + ys < n) = false := decide_eq_false (by omega)
              have d5 : decide (xs + ys ≤ 14400) = true := decide_eq_true hm
              clear hn NO
              go_wp2_with fail
              go_quiet (fail)
              have H9 := Lib.hid (below_drewN HC3.out nq)
              clear x0 x1 x2 x3 y0 y1 y2 y3 HC3 wi hm d4 d5
              go_wp2_with fail
              go_roundw
              case rel => exact ⟨q + 1, by go_num, by omega, H9⟩
              case measure => simp [intOf]; omega
            · have d5 : decide (xs + ys ≤ 14400) = false := decide_eq_false hm
              clear NO
              go_wp2_with fail
              go_quiet (fail)
              have H9 := Lib.hid (below_drewN HC3.out nq)
              clear x0 x1 x2 x3 y0 y1 y2 y3 HC3 wi hm d5
              go_wp2_with fail
              go_roundw
              case rel => exact ⟨q + 1, by go_num, by omega, H9⟩
              case measure => simp [intOf]; omega
        · have dq : decide (q < D.length) = false := by rw [decide_eq_false_iff_not]; exact hlq
          clear hlq hq
          go_wp2_with fail
          go_roundw
          case rel => exact ⟨k + 1, by go_num, by omega, HC⟩
          case measure => simp [intOf]; omega
    · have d : decide (k < D.length) = false := by rw [decide_eq_false_iff_not]; exact hlt
      have B3 := Lib.hid (B1.out.trans (HB.out.mono B1.out.size))
      have X5 := Lib.hid (ex_any wr)
      clear hlt hk HB
      go_wp2_with fail
      refine X5.out.mono ?_
      rintro e w6 ⟨rfl, y6⟩
      have B6 := Lib.hid (B3.out.trans (y6.mono B3.out.size))
      clear X5 y6 B3
      go_wp2_with fail
      go_ret
      exact ⟨rfl, B6.out⟩
end Go.Proofs.Ytibakhobgfiklaa
