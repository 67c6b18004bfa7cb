/-
  The law ParetoMerges: true for every input, nothing that existed has changed. Condition: none.
-/
import Derived.Test.YtokcpgpchiikgaaPLaw2
namespace Go.Proofs.Ytokcpgpchiikgaa
open Go.RowKit

set_option maxRecDepth 100000 in
set_option maxHeartbeats 32000000 in
theorem merges_law (va : Value) (a : List Vec) (_ : a.length ≤ 9223372036854775807) (vb : Value) (b : List Vec) (_ : b.length ≤ 9223372036854775807) (x : Vec) (w : World) (hA : LstV w va a) (hB : LstV w vb b) : Calls Try.prog 6 #[va, vb, .agg #[.int .i64 x.1, .int .i64 x.2.1, .int .i64 x.2.2.1, .int .i64 x.2.2.2]] w fun e w' => e = .returned (.bool true) ∧ Below w.heap.size w w' := by
  have hh := hA
  obtain ⟨A, ca, rfl, -⟩ := hh
  have hh := hB
  obtain ⟨B, cb, rfl, -⟩ := hh
  obtain ⟨w0, hw0, hs, rx, b0⟩ := box_one w x 22
  have B0 := Lib.hid b0
  have La := Lib.hid (hA.below b0)
  have Lb := Lib.hid (hB.below b0)
  have ws : w.heap.size < w0.heap.size := by omega
  obtain ⟨c0_0, c0_1, c0_2, c0_3⟩ := box_at rx
  clear hA hB b0 rx hs
  by_cases h1 : (40 : Int) < (a.length : Int)
  · clear La Lb c0_0 c0_1 c0_2 c0_3
    go_enter Try.func6, Try.ntmps6
    go_wp2_with fail
    refine (ex_any _).mono ?_
    rintro e w1 ⟨rfl, b1⟩
    have BB := Lib.hid (B0.out.trans (b1.mono B0.out.size))
    clear b1
    go_wp2_with fail
    go_ret
    exact ⟨rfl, BB.out⟩
  · have ha : a.length ≤ 40 := by omega
    have d1 : decide ((40 : Int) < (a.length : Int)) = false := decide_eq_false h1
    clear h1
    by_cases h2 : (40 : Int) < (b.length : Int)
    · clear La Lb c0_0 c0_1 c0_2 c0_3
      go_enter Try.func6, Try.ntmps6
      go_wp2_with fail
      refine (ex_any _).mono ?_
      rintro e w1 ⟨rfl, b1⟩
      have BB := Lib.hid (B0.out.trans (b1.mono B0.out.size))
      clear b1
      go_wp2_with fail
      go_ret
      exact ⟨rfl, BB.out⟩
    · have hb : b.length ≤ 40 := by omega
      have d2 : decide ((40 : Int) < (b.length : Int)) = false := decide_eq_false h2
      clear h2
      have hf := frV_len (a ++ b)
      rw [List.length_append] at hf
      have hg := List.length_filter_le (fun y => wi y x) a
      have MA := Lib.hid (fun va vb w h k => merge_any va vb a b (by omega) (by omega) w h k)
      have RM := Lib.hid (fun va vb w h k => rmerge_any va vb a b (by omega) (by omega) w h k)
      have WA := Lib.hid (fun v w h => within_list v a x (by omega) w h)
      have RW := Lib.hid (fun v w h => rwithin_list v a x (by omega) w h)
      generalize frV (a ++ b) = F at hf MA RM
      generalize a.filter (fun y => wi y x) = E at hg WA RW
      have BB := Lib.hid (Below.refl w0.heap.size w0)
      go_enter Try.func6, Try.ntmps6
      go_wp2_with fail
      clear hw0
      refine (from_any _ a (by omega) w0 La.out).mono ?_
      rintro e w1 ⟨v_x, rfl, l_x, b1⟩
      have Lb := Lib.hid (Lb.out.below b1)
      have Lx := Lib.hid l_x
      have wz := Nat.lt_of_lt_of_le ws BB.out.size
      have c1_0 := (b1.cell (p := ⟨w.heap.size, 0, none⟩) wz).trans c0_0
      have c1_1 := (b1.cell (p := ⟨w.heap.size, 1, none⟩) wz).trans c0_1
      have c1_2 := (b1.cell (p := ⟨w.heap.size, 2, none⟩) wz).trans c0_2
      have c1_3 := (b1.cell (p := ⟨w.heap.size, 3, none⟩) wz).trans c0_3
      have BB := Lib.hid (BB.out.trans (b1.mono BB.out.size))
      clear b1 l_x wz La c0_0 c0_1 c0_2 c0_3
      go_wp2_with fail
      refine (from_any _ b (by omega) w1 Lb.out).mono ?_
      rintro e w2 ⟨v_y, rfl, l_y, b2⟩
      have Lx := Lib.hid (Lx.out.below b2)
      have Ly := Lib.hid l_y
      have wz := Nat.lt_of_lt_of_le ws BB.out.size
      have c2_0 := (b2.cell (p := ⟨w.heap.size, 0, none⟩) wz).trans c1_0
      have c2_1 := (b2.cell (p := ⟨w.heap.size, 1, none⟩) wz).trans c1_1
      have c2_2 := (b2.cell (p := ⟨w.heap.size, 2, none⟩) wz).trans c1_2
      have c2_3 := (b2.cell (p := ⟨w.heap.size, 3, none⟩) wz).trans c1_3
      have BB := Lib.hid (BB.out.trans (b2.mono BB.out.size))
      clear b2 l_y wz Lb c1_0 c1_1 c1_2 c1_3
      go_wp2_with fail
      have C1 := Lib.hid (fun W (hb : Below w2.heap.size w2 W) => far_list (MA.out _ _ W (Lx.out.below hb) (Ly.out.below hb)) hb)
      go_region_held3 (fun W => W.cell? ⟨w.heap.size, 0, none⟩ = some (.int .i64 x.1) ∧ W.cell? ⟨w.heap.size, 1, none⟩ = some (.int .i64 x.2.1) ∧ W.cell? ⟨w.heap.size, 2, none⟩ = some (.int .i64 x.2.2.1) ∧ W.cell? ⟨w.heap.size, 3, none⟩ = some (.int .i64 x.2.2.2)) (first | assumption | (exact ⟨by assumption, by assumption, by assumption, by assumption⟩)) (first
        | (go_at_call 25; with_reducible refine (C1.out _ (by first | exact Below.refl _ _ | exact (Below.refl _ _).drew)).mono ?_; rintro e z1 ⟨v_m, rfl, l_m, bz1⟩; have Lx := Lib.hid (Lx.out.below bz1); have Ly := Lib.hid (Ly.out.below bz1); have Lm := Lib.hid l_m; have cz1_0 := (bz1.cell (p := ⟨w.heap.size, 0, none⟩) (Nat.lt_of_lt_of_le ws BB.out.size)).trans c2_0; have cz1_1 := (bz1.cell (p := ⟨w.heap.size, 1, none⟩) (Nat.lt_of_lt_of_le ws BB.out.size)).trans c2_1; have cz1_2 := (bz1.cell (p := ⟨w.heap.size, 2, none⟩) (Nat.lt_of_lt_of_le ws BB.out.size)).trans c2_2; have cz1_3 := (bz1.cell (p := ⟨w.heap.size, 3, none⟩) (Nat.lt_of_lt_of_le ws BB.out.size)).trans c2_3; have BB := Lib.hid (BB.out.trans (bz1.mono BB.out.size)); have C2 := Lib.hid (fun W (hb : Below z1.heap.size z1 W) => far_list (to_any _ F (by omega) W (Lm.out.below hb)) hb); clear C1 l_m bz1)
        | (go_at_call 16; with_reducible refine (C2.out _ (by first | exact Below.refl _ _ | exact (Below.refl _ _).drew)).mono ?_; rintro e z2 ⟨v_n, rfl, l_n, bz2⟩; have Lx := Lib.hid (Lx.out.below bz2); have Ly := Lib.hid (Ly.out.below bz2); have Ln := Lib.hid l_n; have cz2_0 := (bz2.cell (p := ⟨w.heap.size, 0, none⟩) (Nat.lt_of_lt_of_le ws BB.out.size)).trans cz1_0; have cz2_1 := (bz2.cell (p := ⟨w.heap.size, 1, none⟩) (Nat.lt_of_lt_of_le ws BB.out.size)).trans cz1_1; have cz2_2 := (bz2.cell (p := ⟨w.heap.size, 2, none⟩) (Nat.lt_of_lt_of_le ws BB.out.size)).trans cz1_2; have cz2_3 := (bz2.cell (p := ⟨w.heap.size, 3, none⟩) (Nat.lt_of_lt_of_le ws BB.out.size)).trans cz1_3; have BB := Lib.hid (BB.out.trans (bz2.mono BB.out.size)); have C3 := Lib.hid (fun W (hb : Below z2.heap.size z2 W) => far_list (to_any _ a (by omega) W (Lx.out.below hb)) hb); clear C2 l_n bz2 Lm)
        | (go_at_call 16; with_reducible refine (C3.out _ (by first | exact Below.refl _ _ | exact (Below.refl _ _).drew)).mono ?_; rintro e z3 ⟨v_p, rfl, l_p, bz3⟩; have Lx := Lib.hid (Lx.out.below bz3); have Ly := Lib.hid (Ly.out.below bz3); have Ln := Lib.hid (Ln.out.below bz3); have Lp := Lib.hid l_p; have cz3_0 := (bz3.cell (p := ⟨w.heap.size, 0, none⟩) (Nat.lt_of_lt_of_le ws BB.out.size)).trans cz2_0; have cz3_1 := (bz3.cell (p := ⟨w.heap.size, 1, none⟩) (Nat.lt_of_lt_of_le ws BB.out.size)).trans cz2_1; have cz3_2 := (bz3.cell (p := ⟨w.heap.size, 2, none⟩) (Nat.lt_of_lt_of_le ws BB.out.size)).trans cz2_2; have cz3_3 := (bz3.cell (p := ⟨w.heap.size, 3, none⟩) (Nat.lt_of_lt_of_le ws BB.out.size)).trans cz2_3; have BB := Lib.hid (BB.out.trans (bz3.mono BB.out.size)); have C4 := Lib.hid (fun W (hb : Below z3.heap.size z3 W) => far_list (to_any _ b (by omega) W (Ly.out.below hb)) hb); clear C3 l_p bz3)
        | (go_at_call 16; with_reducible refine (C4.out _ (by first | exact Below.refl _ _ | exact (Below.refl _ _).drew)).mono ?_; rintro e z4 ⟨v_q, rfl, l_q, bz4⟩; have Lx := Lib.hid (Lx.out.below bz4); have Ln := Lib.hid (Ln.out.below bz4); have Lp := Lib.hid (Lp.out.below bz4); have Lq := Lib.hid l_q; have cz4_0 := (bz4.cell (p := ⟨w.heap.size, 0, none⟩) (Nat.lt_of_lt_of_le ws BB.out.size)).trans cz3_0; have cz4_1 := (bz4.cell (p := ⟨w.heap.size, 1, none⟩) (Nat.lt_of_lt_of_le ws BB.out.size)).trans cz3_1; have cz4_2 := (bz4.cell (p := ⟨w.heap.size, 2, none⟩) (Nat.lt_of_lt_of_le ws BB.out.size)).trans cz3_2; have cz4_3 := (bz4.cell (p := ⟨w.heap.size, 3, none⟩) (Nat.lt_of_lt_of_le ws BB.out.size)).trans cz3_3; have BB := Lib.hid (BB.out.trans (bz4.mono BB.out.size)); have C5 := Lib.hid (fun W (hb : Below z4.heap.size z4 W) => far_list (RM.out _ _ W (Lp.out.below hb) (Lq.out.below hb)) hb); clear C4 l_q bz4 Ly)
        | (go_at_call 26; with_reducible refine (C5.out _ (by first | exact Below.refl _ _ | exact (Below.refl _ _).drew)).mono ?_; rintro e z5 ⟨v_r, rfl, l_r, bz5⟩; have Lx := Lib.hid (Lx.out.below bz5); have Ln := Lib.hid (Ln.out.below bz5); have Lr := Lib.hid l_r; have cz5_0 := (bz5.cell (p := ⟨w.heap.size, 0, none⟩) (Nat.lt_of_lt_of_le ws BB.out.size)).trans cz4_0; have cz5_1 := (bz5.cell (p := ⟨w.heap.size, 1, none⟩) (Nat.lt_of_lt_of_le ws BB.out.size)).trans cz4_1; have cz5_2 := (bz5.cell (p := ⟨w.heap.size, 2, none⟩) (Nat.lt_of_lt_of_le ws BB.out.size)).trans cz4_2; have cz5_3 := (bz5.cell (p := ⟨w.heap.size, 3, none⟩) (Nat.lt_of_lt_of_le ws BB.out.size)).trans cz4_3; have BB := Lib.hid (BB.out.trans (bz5.mono BB.out.size)); have C6 := Lib.hid (fun W (hb : Below z5.heap.size z5 W) => far (ex_same _ _ F (by omega) W (Ln.out.below hb) (Lr.out.below hb)) hb); clear C5 l_r bz5 Lp Lq)
        | (go_at_call 15; with_reducible refine (C6.out _ (by first | exact Below.refl _ _ | exact (Below.refl _ _).drew)).mono ?_; rintro e z6 ⟨rfl, bz6⟩; have Lx := Lib.hid (Lx.out.below bz6); have cz6_0 := (bz6.cell (p := ⟨w.heap.size, 0, none⟩) (Nat.lt_of_lt_of_le ws BB.out.size)).trans cz5_0; have cz6_1 := (bz6.cell (p := ⟨w.heap.size, 1, none⟩) (Nat.lt_of_lt_of_le ws BB.out.size)).trans cz5_1; have cz6_2 := (bz6.cell (p := ⟨w.heap.size, 2, none⟩) (Nat.lt_of_lt_of_le ws BB.out.size)).trans cz5_2; have cz6_3 := (bz6.cell (p := ⟨w.heap.size, 3, none⟩) (Nat.lt_of_lt_of_le ws BB.out.size)).trans cz5_3; have BB := Lib.hid (BB.out.trans (bz6.mono BB.out.size)); have C7 := Lib.hid (fun W (hb : Below z6.heap.size z6 W) => far_list (WA.out _ W (Lx.out.below hb)) hb); clear C6 bz6 Ln Lr)
        | (go_at_call 27; with_reducible refine (C7.out _ (by first | exact Below.refl _ _ | exact (Below.refl _ _).drew)).mono ?_; rintro e z7 ⟨v_s, rfl, l_s, bz7⟩; have Lx := Lib.hid (Lx.out.below bz7); have Ls := Lib.hid l_s; have cz7_0 := (bz7.cell (p := ⟨w.heap.size, 0, none⟩) (Nat.lt_of_lt_of_le ws BB.out.size)).trans cz6_0; have cz7_1 := (bz7.cell (p := ⟨w.heap.size, 1, none⟩) (Nat.lt_of_lt_of_le ws BB.out.size)).trans cz6_1; have cz7_2 := (bz7.cell (p := ⟨w.heap.size, 2, none⟩) (Nat.lt_of_lt_of_le ws BB.out.size)).trans cz6_2; have cz7_3 := (bz7.cell (p := ⟨w.heap.size, 3, none⟩) (Nat.lt_of_lt_of_le ws BB.out.size)).trans cz6_3; have BB := Lib.hid (BB.out.trans (bz7.mono BB.out.size)); have C8 := Lib.hid (fun W (hb : Below z7.heap.size z7 W) => far_list (to_any _ E (by omega) W (Ls.out.below hb)) hb); clear C7 l_s bz7)
        | (go_at_call 16; with_reducible refine (C8.out _ (by first | exact Below.refl _ _ | exact (Below.refl _ _).drew)).mono ?_; rintro e z8 ⟨v_t, rfl, l_t, bz8⟩; have Lx := Lib.hid (Lx.out.below bz8); have Lt := Lib.hid l_t; have cz8_0 := (bz8.cell (p := ⟨w.heap.size, 0, none⟩) (Nat.lt_of_lt_of_le ws BB.out.size)).trans cz7_0; have cz8_1 := (bz8.cell (p := ⟨w.heap.size, 1, none⟩) (Nat.lt_of_lt_of_le ws BB.out.size)).trans cz7_1; have cz8_2 := (bz8.cell (p := ⟨w.heap.size, 2, none⟩) (Nat.lt_of_lt_of_le ws BB.out.size)).trans cz7_2; have cz8_3 := (bz8.cell (p := ⟨w.heap.size, 3, none⟩) (Nat.lt_of_lt_of_le ws BB.out.size)).trans cz7_3; have BB := Lib.hid (BB.out.trans (bz8.mono BB.out.size)); have C9 := Lib.hid (fun W (hb : Below z8.heap.size z8 W) => far_list (to_any _ a (by omega) W (Lx.out.below hb)) hb); clear C8 l_t bz8 Ls)
        | (go_at_call 16; with_reducible refine (C9.out _ (by first | exact Below.refl _ _ | exact (Below.refl _ _).drew)).mono ?_; rintro e z9 ⟨v_u, rfl, l_u, bz9⟩; have Lt := Lib.hid (Lt.out.below bz9); have Lu := Lib.hid l_u; have cz9_0 := (bz9.cell (p := ⟨w.heap.size, 0, none⟩) (Nat.lt_of_lt_of_le ws BB.out.size)).trans cz8_0; have cz9_1 := (bz9.cell (p := ⟨w.heap.size, 1, none⟩) (Nat.lt_of_lt_of_le ws BB.out.size)).trans cz8_1; have cz9_2 := (bz9.cell (p := ⟨w.heap.size, 2, none⟩) (Nat.lt_of_lt_of_le ws BB.out.size)).trans cz8_2; have cz9_3 := (bz9.cell (p := ⟨w.heap.size, 3, none⟩) (Nat.lt_of_lt_of_le ws BB.out.size)).trans cz8_3; have BB := Lib.hid (BB.out.trans (bz9.mono BB.out.size)); have C10 := Lib.hid (fun W (hb : Below z9.heap.size z9 W) => far_list (RW.out _ W (Lu.out.below hb)) hb); clear C9 l_u bz9 Lx)
        | (go_at_call 28; with_reducible refine (C10.out _ (by first | exact Below.refl _ _ | exact (Below.refl _ _).drew)).mono ?_; rintro e z10 ⟨v_k, rfl, l_k, bz10⟩; have Lt := Lib.hid (Lt.out.below bz10); have Lk := Lib.hid l_k; have cz10_0 := (bz10.cell (p := ⟨w.heap.size, 0, none⟩) (Nat.lt_of_lt_of_le ws BB.out.size)).trans cz9_0; have cz10_1 := (bz10.cell (p := ⟨w.heap.size, 1, none⟩) (Nat.lt_of_lt_of_le ws BB.out.size)).trans cz9_1; have cz10_2 := (bz10.cell (p := ⟨w.heap.size, 2, none⟩) (Nat.lt_of_lt_of_le ws BB.out.size)).trans cz9_2; have cz10_3 := (bz10.cell (p := ⟨w.heap.size, 3, none⟩) (Nat.lt_of_lt_of_le ws BB.out.size)).trans cz9_3; have BB := Lib.hid (BB.out.trans (bz10.mono BB.out.size)); have C11 := Lib.hid (fun W (hb : Below z10.heap.size z10 W) => far (ex_same _ _ E (by omega) W (Lt.out.below hb) (Lk.out.below hb)) hb); clear C10 l_k bz10 Lu)
        | (go_at_call 15; with_reducible refine (C11.out _ (by first | exact Below.refl _ _ | exact (Below.refl _ _).drew)).mono ?_; rintro e z11 ⟨rfl, bz11⟩; have cz11_0 := (bz11.cell (p := ⟨w.heap.size, 0, none⟩) (Nat.lt_of_lt_of_le ws BB.out.size)).trans cz10_0; have cz11_1 := (bz11.cell (p := ⟨w.heap.size, 1, none⟩) (Nat.lt_of_lt_of_le ws BB.out.size)).trans cz10_1; have cz11_2 := (bz11.cell (p := ⟨w.heap.size, 2, none⟩) (Nat.lt_of_lt_of_le ws BB.out.size)).trans cz10_2; have cz11_3 := (bz11.cell (p := ⟨w.heap.size, 3, none⟩) (Nat.lt_of_lt_of_le ws BB.out.size)).trans cz10_3; have BB := Lib.hid (BB.out.trans (bz11.mono BB.out.size)); have C12 := Lib.hid (fun W (hb : Below z11.heap.size z11 W) => far (ex_any W) hb); clear C11 bz11 Lt Lk)
        | (go_at_call 13; with_reducible refine (C12.out _ (by first | exact Below.refl _ _ | exact (Below.refl _ _).drew)).mono ?_; rintro e z12 ⟨rfl, bz12⟩; have cz12_0 := (bz12.cell (p := ⟨w.heap.size, 0, none⟩) (Nat.lt_of_lt_of_le ws BB.out.size)).trans cz11_0; have cz12_1 := (bz12.cell (p := ⟨w.heap.size, 1, none⟩) (Nat.lt_of_lt_of_le ws BB.out.size)).trans cz11_1; have cz12_2 := (bz12.cell (p := ⟨w.heap.size, 2, none⟩) (Nat.lt_of_lt_of_le ws BB.out.size)).trans cz11_2; have cz12_3 := (bz12.cell (p := ⟨w.heap.size, 3, none⟩) (Nat.lt_of_lt_of_le ws BB.out.size)).trans cz11_3; have BB := Lib.hid (BB.out.trans (bz12.mono BB.out.size)); clear C12 bz12))
      all_goals
        go_wp2_with fail
        go_ret
        exact ⟨rfl, B0.out.trans (BB.out.mono B0.out.size)⟩
end Go.Proofs.Ytokcpgpchiikgaa
