/-
  The laws ParetoFronts, ParetoInserts and ParetoMerges: true for every input, nothing that existed has changed. Condition: none.
-/
import Derived.Test.YtokcpgpchiikgaaPLaw
namespace Go.Proofs.Ytokcpgpchiikgaa
open Go.RowKit

set_option maxRecDepth 100000 in
set_option maxHeartbeats 8000000 in
theorem fronts_law (v : Value) (l : List Vec) (_ : l.length ≤ 9223372036854775807) (w : World) (h : LstV w v l) : Calls Try.prog 4 #[v] w fun e w' => e = .returned (.bool true) ∧ Below w.heap.size w w' := by
  have hh := h
  obtain ⟨A, c, rfl, -⟩ := hh
  have La := Lib.hid h
  clear h
  by_cases h1 : (60 : Int) < (l.length : Int)
  · clear La
    go_enter Try.func4, Try.ntmps4
    go_wp2_with fail
    refine (ex_any _).mono ?_
    rintro e w1 ⟨rfl, b1⟩
    have BB := Lib.hid (b1)
    clear b1
    go_wp2_with fail
    go_ret
    exact ⟨rfl, BB.out⟩
  · have hl : l.length ≤ 60 := by omega
    have d1 : decide ((60 : Int) < (l.length : Int)) = false := decide_eq_false h1
    clear h1
    have hf := frV_len l
    have IF := Lib.hid (fun v w h => isfront_any v l (by omega) w h)
    have RF := Lib.hid (fun v w h => risfront_any v l (by omega) w h)
    have FA := Lib.hid (fun v w h => front_any v l (by omega) w h)
    have RA := Lib.hid (fun v w h => rfront_any v l (by omega) w h)
    generalize decide (l = frV l) = q at IF RF
    generalize frV l = F at hf FA RA
    have eq := (beq_self_eq_true q : (q == q) = true)
    go_enter Try.func4, Try.ntmps4
    go_wp2_with fail
    refine (from_any _ l (by omega) w La.out).mono ?_
    rintro e w1 ⟨v_x, rfl, l_x, b1⟩
    have Lx := Lib.hid l_x
    have BB1 := Lib.hid (b1)
    clear l_x b1 La
    go_wp2_with fail
    refine (FA.out _ w1 Lx.out).mono ?_
    rintro e w2 ⟨v_f, rfl, l_f, b2⟩
    have Lx := Lib.hid (Lx.out.below b2)
    have Lf := Lib.hid l_f
    have BB2 := Lib.hid (BB1.out.trans (b2.mono BB1.out.size))
    clear l_f b2 BB1
    go_wp2_with fail
    refine (to_any _ F (by omega) w2 Lf.out).mono ?_
    rintro e w3 ⟨v_tf, rfl, l_tf, b3⟩
    have Lx := Lib.hid (Lx.out.below b3)
    have Ltf := Lib.hid l_tf
    have BB3 := Lib.hid (BB2.out.trans (b3.mono BB2.out.size))
    clear l_tf b3 BB2 Lf
    go_wp2_with fail
    refine (to_any _ l (by omega) w3 Lx.out).mono ?_
    rintro e w4 ⟨v_tx, rfl, l_tx, b4⟩
    have Lx := Lib.hid (Lx.out.below b4)
    have Ltf := Lib.hid (Ltf.out.below b4)
    have Ltx := Lib.hid l_tx
    have BB4 := Lib.hid (BB3.out.trans (b4.mono BB3.out.size))
    clear l_tx b4 BB3
    go_wp2_with fail
    refine (RA.out _ w4 Ltx.out).mono ?_
    rintro e w5 ⟨v_r, rfl, l_r, b5⟩
    have Lx := Lib.hid (Lx.out.below b5)
    have Ltf := Lib.hid (Ltf.out.below b5)
    have Lr := Lib.hid l_r
    have BB5 := Lib.hid (BB4.out.trans (b5.mono BB4.out.size))
    clear l_r b5 BB4 Ltx
    go_wp2_with fail
    refine (ex_same _ _ F (by omega) w5 Ltf.out Lr.out).mono ?_
    rintro e w6 ⟨rfl, b6⟩
    have Lx := Lib.hid (Lx.out.below b6)
    have BB6 := Lib.hid (BB5.out.trans (b6.mono BB5.out.size))
    clear b6 BB5 Ltf Lr
    go_wp2_with fail
    refine (IF.out _ w6 Lx.out).mono ?_
    rintro e w7 ⟨rfl, b7⟩
    have Lx := Lib.hid (Lx.out.below b7)
    have BB7 := Lib.hid (BB6.out.trans (b7.mono BB6.out.size))
    clear b7 BB6
    go_wp2_with fail
    refine (to_any _ l (by omega) w7 Lx.out).mono ?_
    rintro e w8 ⟨v_ty, rfl, l_ty, b8⟩
    have Lty := Lib.hid l_ty
    have BB8 := Lib.hid (BB7.out.trans (b8.mono BB7.out.size))
    clear l_ty b8 BB7 Lx
    go_wp2_with fail
    refine (RF.out _ w8 Lty.out).mono ?_
    rintro e w9 ⟨rfl, b9⟩
    have BB9 := Lib.hid (BB8.out.trans (b9.mono BB8.out.size))
    clear b9 BB8 Lty
    go_wp2_with fail
    refine (ex_any w9).mono ?_
    rintro e w10 ⟨rfl, b10⟩
    have BB10 := Lib.hid (BB9.out.trans (b10.mono BB9.out.size))
    clear b10 BB9
    go_wp2_with fail
    go_ret
    exact ⟨rfl, BB10.out⟩
set_option maxRecDepth 100000 in
set_option maxHeartbeats 16000000 in
theorem inserts_law (v : Value) (l : List Vec) (_ : l.length ≤ 9223372036854775807) (x : Vec) (w : World) (h : LstV w v l) : Calls Try.prog 5 #[v, .agg #[.int .i64 x.1, .int .i64 x.2.1, .int .i64 x.2.2.1, .int .i64 x.2.2.2]] w fun e w' => e = .returned (.bool true) ∧ Below w.heap.size w w' := by
  have hh := h
  obtain ⟨A, c, rfl, -⟩ := hh
  obtain ⟨w0, hw0, hs, rx, b0⟩ := box_one w x 22
  have B0 := Lib.hid b0
  have La := Lib.hid (h.below b0)
  have ws : w.heap.size < w0.heap.size := by omega
  obtain ⟨c0_0, c0_1, c0_2, c0_3⟩ := box_at rx
  clear h b0 rx hs
  by_cases h1 : (60 : Int) < (l.length : Int)
  · clear La c0_0 c0_1 c0_2 c0_3
    go_enter Try.func5, Try.ntmps5
    go_wp2_with fail
    refine (ex_any _).mono ?_
    rintro e w1 ⟨rfl, b1⟩
    have BB := Lib.hid (B0.out.trans (b1.mono B0.out.size))
    clear b1
    go_wp2_with fail
    go_ret
    exact ⟨rfl, BB.out⟩
  · have hl : l.length ≤ 60 := by omega
    have d1 : decide ((60 : Int) < (l.length : Int)) = false := decide_eq_false h1
    clear h1
    have hf := Nat.le_trans (frV_len (l ++ [x])) (by rw [List.length_append]; exact Nat.le_refl _)
    have hx1 : [x].length = 1 := rfl
    rw [hx1] at hf
    have IA := Lib.hid (fun v w h => insert_any v l x (by omega) w h)
    have RI := Lib.hid (fun v w h => rinsert_any v l x (by omega) w h)
    have CA := Lib.hid (fun v w h => covers_any v l x (by omega) w h)
    have RC := Lib.hid (fun v w h => rcov_any v l x (by omega) w h)
    generalize cov l x = q at IA RI CA RC
    generalize frV (l ++ [x]) = F at hf IA RI
    have eq := (beq_self_eq_true q : (q == q) = true)
    have eq' := (beq_self_eq_true (!q) : ((!q) == (!q)) = true)
    have BB := Lib.hid (Below.refl w0.heap.size w0)
    clear hx1
    go_enter Try.func5, Try.ntmps5
    go_wp2_with fail
    clear hw0
    refine (from_any _ l (by omega) w0 La.out).mono ?_
    rintro e w1 ⟨v_x, rfl, l_x, b1⟩
    have Lx := Lib.hid l_x
    have c1_0 := (b1.cell (p := ⟨w.heap.size, 0, none⟩) ws).trans c0_0
    have c1_1 := (b1.cell (p := ⟨w.heap.size, 1, none⟩) ws).trans c0_1
    have c1_2 := (b1.cell (p := ⟨w.heap.size, 2, none⟩) ws).trans c0_2
    have c1_3 := (b1.cell (p := ⟨w.heap.size, 3, none⟩) ws).trans c0_3
    have BB := Lib.hid (BB.out.trans (b1.mono BB.out.size))
    clear b1 l_x c0_0 c0_1 c0_2 c0_3 La
    go_wp2_with fail
    refine (IA.out _ w1 Lx.out).mono ?_
    rintro e w2 ⟨v_f, rfl, l_f, b2⟩
    have Lf := Lib.hid l_f
    have Lx := Lib.hid (Lx.out.below b2)
    have ws1 := Nat.lt_of_lt_of_le ws BB.out.size
    have c2_0 := (b2.cell (p := ⟨w.heap.size, 0, none⟩) ws1).trans c1_0
    have c2_1 := (b2.cell (p := ⟨w.heap.size, 1, none⟩) ws1).trans c1_1
    have c2_2 := (b2.cell (p := ⟨w.heap.size, 2, none⟩) ws1).trans c1_2
    have c2_3 := (b2.cell (p := ⟨w.heap.size, 3, none⟩) ws1).trans c1_3
    have BB := Lib.hid (BB.out.trans (b2.mono BB.out.size))
    clear b2 l_f c1_0 c1_1 c1_2 c1_3 ws1
    go_wp2_with fail
    have C1 := Lib.hid (fun W (hb : Below w2.heap.size w2 W) => far_list (to_any _ l (by omega) W (Lx.out.below hb)) hb)
    go_region_held3 (fun W => W.cell? ⟨w.heap.size, 0, none⟩ = some (.int .i64 x.1) ∧ W.cell? ⟨w.heap.size, 1, none⟩ = some (.int .i64 x.2.1) ∧ W.cell? ⟨w.heap.size, 2, none⟩ = some (.int .i64 x.2.2.1) ∧ W.cell? ⟨w.heap.size, 3, none⟩ = some (.int .i64 x.2.2.2)) (first | assumption | (exact ⟨by assumption, by assumption, by assumption, by assumption⟩)) (first
      | (go_at_call 16; with_reducible refine (C1.out _ (by first | exact Below.refl _ _ | exact (Below.refl _ _).drew)).mono ?_; rintro e y1 ⟨v_t, rfl, l_t, by1⟩; have Lx := Lib.hid (Lx.out.below by1); have Lf := Lib.hid (Lf.out.below by1); have Lt := Lib.hid l_t; have cy1_0 := (by1.cell (p := ⟨w.heap.size, 0, none⟩) (Nat.lt_of_lt_of_le ws BB.out.size)).trans c2_0; have cy1_1 := (by1.cell (p := ⟨w.heap.size, 1, none⟩) (Nat.lt_of_lt_of_le ws BB.out.size)).trans c2_1; have cy1_2 := (by1.cell (p := ⟨w.heap.size, 2, none⟩) (Nat.lt_of_lt_of_le ws BB.out.size)).trans c2_2; have cy1_3 := (by1.cell (p := ⟨w.heap.size, 3, none⟩) (Nat.lt_of_lt_of_le ws BB.out.size)).trans c2_3; have BB := Lib.hid (BB.out.trans (by1.mono BB.out.size)); have C2 := Lib.hid (fun W (hb : Below y1.heap.size y1 W) => far_two (RI.out _ W (Lt.out.below hb)) hb); clear C1 l_t by1)
      | (go_at_call 22; with_reducible refine (C2.out _ (by first | exact Below.refl _ _ | exact (Below.refl _ _).drew)).mono ?_; rintro e y2 ⟨v_b, rfl, l_b, by2⟩; have Lx := Lib.hid (Lx.out.below by2); have Lf := Lib.hid (Lf.out.below by2); have Lb := Lib.hid l_b; have cy2_0 := (by2.cell (p := ⟨w.heap.size, 0, none⟩) (Nat.lt_of_lt_of_le ws BB.out.size)).trans cy1_0; have cy2_1 := (by2.cell (p := ⟨w.heap.size, 1, none⟩) (Nat.lt_of_lt_of_le ws BB.out.size)).trans cy1_1; have cy2_2 := (by2.cell (p := ⟨w.heap.size, 2, none⟩) (Nat.lt_of_lt_of_le ws BB.out.size)).trans cy1_2; have cy2_3 := (by2.cell (p := ⟨w.heap.size, 3, none⟩) (Nat.lt_of_lt_of_le ws BB.out.size)).trans cy1_3; have BB := Lib.hid (BB.out.trans (by2.mono BB.out.size)); clear C2 l_b by2 Lt))
    all_goals
      go_wp2_with fail
      have C1 := Lib.hid (fun W (hb : Below y2.heap.size y2 W) => far_list (to_any _ F (by omega) W (Lf.out.below hb)) hb)
      go_region_held3 (fun W => W.cell? ⟨w.heap.size, 0, none⟩ = some (.int .i64 x.1) ∧ W.cell? ⟨w.heap.size, 1, none⟩ = some (.int .i64 x.2.1) ∧ W.cell? ⟨w.heap.size, 2, none⟩ = some (.int .i64 x.2.2.1) ∧ W.cell? ⟨w.heap.size, 3, none⟩ = some (.int .i64 x.2.2.2)) (first | assumption | (exact ⟨by assumption, by assumption, by assumption, by assumption⟩)) (first
        | (go_at_call 16; with_reducible refine (C1.out _ (by first | exact Below.refl _ _ | exact (Below.refl _ _).drew)).mono ?_; rintro e z1 ⟨v_g, rfl, l_g, bz1⟩; have Lx := Lib.hid (Lx.out.below bz1); have Lb := Lib.hid (Lb.out.below bz1); have Lg := Lib.hid l_g; have cz1_0 := (bz1.cell (p := ⟨w.heap.size, 0, none⟩) (Nat.lt_of_lt_of_le ws BB.out.size)).trans cy2_0; have cz1_1 := (bz1.cell (p := ⟨w.heap.size, 1, none⟩) (Nat.lt_of_lt_of_le ws BB.out.size)).trans cy2_1; have cz1_2 := (bz1.cell (p := ⟨w.heap.size, 2, none⟩) (Nat.lt_of_lt_of_le ws BB.out.size)).trans cy2_2; have cz1_3 := (bz1.cell (p := ⟨w.heap.size, 3, none⟩) (Nat.lt_of_lt_of_le ws BB.out.size)).trans cy2_3; have BB := Lib.hid (BB.out.trans (bz1.mono BB.out.size)); have C2 := Lib.hid (fun W (hb : Below z1.heap.size z1 W) => far (ex_same _ _ F (by omega) W (Lg.out.below hb) (Lb.out.below hb)) hb); clear C1 l_g bz1 Lf)
        | (go_at_call 15; with_reducible refine (C2.out _ (by first | exact Below.refl _ _ | exact (Below.refl _ _).drew)).mono ?_; rintro e z2 ⟨rfl, bz2⟩; have Lx := Lib.hid (Lx.out.below bz2); have cz2_0 := (bz2.cell (p := ⟨w.heap.size, 0, none⟩) (Nat.lt_of_lt_of_le ws BB.out.size)).trans cz1_0; have cz2_1 := (bz2.cell (p := ⟨w.heap.size, 1, none⟩) (Nat.lt_of_lt_of_le ws BB.out.size)).trans cz1_1; have cz2_2 := (bz2.cell (p := ⟨w.heap.size, 2, none⟩) (Nat.lt_of_lt_of_le ws BB.out.size)).trans cz1_2; have cz2_3 := (bz2.cell (p := ⟨w.heap.size, 3, none⟩) (Nat.lt_of_lt_of_le ws BB.out.size)).trans cz1_3; have BB := Lib.hid (BB.out.trans (bz2.mono BB.out.size)); have C3 := Lib.hid (fun W (hb : Below z2.heap.size z2 W) => far (CA.out _ W (Lx.out.below hb)) hb); clear C2 bz2 Lg Lb)
        | (go_at_call 23; with_reducible refine (C3.out _ (by first | exact Below.refl _ _ | exact (Below.refl _ _).drew)).mono ?_; rintro e z3 ⟨rfl, bz3⟩; have Lx := Lib.hid (Lx.out.below bz3); have cz3_0 := (bz3.cell (p := ⟨w.heap.size, 0, none⟩) (Nat.lt_of_lt_of_le ws BB.out.size)).trans cz2_0; have cz3_1 := (bz3.cell (p := ⟨w.heap.size, 1, none⟩) (Nat.lt_of_lt_of_le ws BB.out.size)).trans cz2_1; have cz3_2 := (bz3.cell (p := ⟨w.heap.size, 2, none⟩) (Nat.lt_of_lt_of_le ws BB.out.size)).trans cz2_2; have cz3_3 := (bz3.cell (p := ⟨w.heap.size, 3, none⟩) (Nat.lt_of_lt_of_le ws BB.out.size)).trans cz2_3; have BB := Lib.hid (BB.out.trans (bz3.mono BB.out.size)); have C4 := Lib.hid (fun W (hb : Below z3.heap.size z3 W) => far_list (to_any _ l (by omega) W (Lx.out.below hb)) hb); clear C3 bz3)
        | (go_at_call 16; with_reducible refine (C4.out _ (by first | exact Below.refl _ _ | exact (Below.refl _ _).drew)).mono ?_; rintro e z4 ⟨v_u, rfl, l_u, bz4⟩; have Lu := Lib.hid l_u; have cz4_0 := (bz4.cell (p := ⟨w.heap.size, 0, none⟩) (Nat.lt_of_lt_of_le ws BB.out.size)).trans cz3_0; have cz4_1 := (bz4.cell (p := ⟨w.heap.size, 1, none⟩) (Nat.lt_of_lt_of_le ws BB.out.size)).trans cz3_1; have cz4_2 := (bz4.cell (p := ⟨w.heap.size, 2, none⟩) (Nat.lt_of_lt_of_le ws BB.out.size)).trans cz3_2; have cz4_3 := (bz4.cell (p := ⟨w.heap.size, 3, none⟩) (Nat.lt_of_lt_of_le ws BB.out.size)).trans cz3_3; have BB := Lib.hid (BB.out.trans (bz4.mono BB.out.size)); have C5 := Lib.hid (fun W (hb : Below z4.heap.size z4 W) => far (RC.out _ W (Lu.out.below hb)) hb); clear C4 l_u bz4 Lx)
        | (go_at_call 24; with_reducible refine (C5.out _ (by first | exact Below.refl _ _ | exact (Below.refl _ _).drew)).mono ?_; rintro e z5 ⟨rfl, bz5⟩; have cz5_0 := (bz5.cell (p := ⟨w.heap.size, 0, none⟩) (Nat.lt_of_lt_of_le ws BB.out.size)).trans cz4_0; have cz5_1 := (bz5.cell (p := ⟨w.heap.size, 1, none⟩) (Nat.lt_of_lt_of_le ws BB.out.size)).trans cz4_1; have cz5_2 := (bz5.cell (p := ⟨w.heap.size, 2, none⟩) (Nat.lt_of_lt_of_le ws BB.out.size)).trans cz4_2; have cz5_3 := (bz5.cell (p := ⟨w.heap.size, 3, none⟩) (Nat.lt_of_lt_of_le ws BB.out.size)).trans cz4_3; have BB := Lib.hid (BB.out.trans (bz5.mono BB.out.size)); have C6 := Lib.hid (fun W (hb : Below z5.heap.size z5 W) => far (ex_any W) hb); clear C5 bz5 Lu)
        | (go_at_call 13; with_reducible refine (C6.out _ (by first | exact Below.refl _ _ | exact (Below.refl _ _).drew)).mono ?_; rintro e z6 ⟨rfl, bz6⟩; have cz6_0 := (bz6.cell (p := ⟨w.heap.size, 0, none⟩) (Nat.lt_of_lt_of_le ws BB.out.size)).trans cz5_0; have cz6_1 := (bz6.cell (p := ⟨w.heap.size, 1, none⟩) (Nat.lt_of_lt_of_le ws BB.out.size)).trans cz5_1; have cz6_2 := (bz6.cell (p := ⟨w.heap.size, 2, none⟩) (Nat.lt_of_lt_of_le ws BB.out.size)).trans cz5_2; have cz6_3 := (bz6.cell (p := ⟨w.heap.size, 3, none⟩) (Nat.lt_of_lt_of_le ws BB.out.size)).trans cz5_3; have BB := Lib.hid (BB.out.trans (bz6.mono BB.out.size)); clear C6 bz6))
      all_goals
        go_wp2_with fail
        go_ret
        exact ⟨rfl, B0.out.trans (BB.out.mono B0.out.size)⟩
end Go.Proofs.Ytokcpgpchiikgaa
