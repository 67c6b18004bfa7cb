/-
  The laws CalendarReasons, CalendarNexts: each answers true for every input; nothing that existed before the call has changed behind it. Condition: none beyond lengths of 63 bits.
-/
import Derived.Test.YtlbockpaeacigaaYLaw
import Derived.Test.YtlbockpaeacigaaYRDys
namespace Go.Proofs.Ytlbockpaeacigaa
open Go.RowKit Go.Sort

theorem same_below {f : FuncId} {args : Array Value} {x : Ending} {w : World} (h : Calls Try.prog f args w fun e w' => e = x ∧ w = w') : Calls Try.prog f args w fun e w' => e = x ∧ Below w.heap.size w w' :=
  h.mono fun _ _ ⟨he, hw⟩ => ⟨he, hw ▸ Below.refl _ _⟩
set_option maxRecDepth 100000 in
set_option maxHeartbeats 8000000 in
theorem reasons_law (lv : Value) (l : List Cl) (_ : l.length ≤ 9223372036854775807) (_ : OkC l) (xv : Value) (x : List Ex) (_ : x.length ≤ 9223372036854775807) (_ : OkX x) (i d : Int) (w : World) (h1 : LstC w lv l) (h2 : LstX w xv x) : Calls Try.prog 5 #[.agg #[lv, xv], .int .i64 i, .int .i64 d] w fun e w' => e = .returned (.bool true) ∧ Below w.heap.size w w' := by
  have E := Lib.hid (fun W => ex_any W)
  obtain ⟨w1, hw1⟩ : ∃ W, w.alloc (.cells #[lv, xv] 35 (0, 0)) = W := ⟨_, rfl⟩
  obtain ⟨b1, p0, p1, z1⟩ := box_sv hw1
  have B1 := Lib.hid b1
  have H1 := Lib.hid (h1.below b1)
  have H2 := Lib.hid (h2.below b1)
  have SM := Lib.hid (small_any lv xv l x w1 H1.out H2.out)
  clear h1 h2 b1
  cases hb : smlB l x with
  | false =>
    rw [hb] at SM
    clear hb H1 H2
    go_enter Try.func5, Try.ntmps5
    go_wp2_with fail
    refine SM.out.mono ?_
    rintro e w2 ⟨rfl, b2⟩
    have B2 := Lib.hid (B1.out.trans (b2.mono B1.out.size))
    clear b2 SM B1
    go_wp2_with fail
    refine (E.out _).mono ?_
    rintro e w3 ⟨rfl, b3⟩
    have B3 := Lib.hid (B2.out.trans (b3.mono B2.out.size))
    clear b3 B2 E
    go_wp2_with fail
    go_ret
    exact ⟨rfl, B3.out⟩
  | true =>
    rw [hb] at SM
    obtain ⟨-, hx20⟩ := smlB_of hb
    have K1 := Lib.hid (fun W (hW : Below w1.heap.size w1 W) => reason_any lv xv l x (by omega) i d W (H1.out.below hW) (H2.out.below hW))
    have K2 := Lib.hid (fun W (hW : Below w1.heap.size w1 W) => same_below (rreason_any lv xv l x (by omega) i d W (H1.out.below hW) (H2.out.below hW)))
    have K3 := Lib.hid (fun W (hW : Below w1.heap.size w1 W) => active_any lv xv l x (by omega) i d W (H1.out.below hW) (H2.out.below hW))
    have K4 := Lib.hid (fun W (hW : Below w1.heap.size w1 W) => same_below (ractive_any lv xv l x (by omega) i d W (H1.out.below hW) (H2.out.below hW)))
    generalize rsnT l x i d = r at K1 K2
    generalize actT l x i d = y at K3 K4
    have t1 := beq_true (a := r) rfl
    clear hb hx20 H1 H2
    go_enter Try.func5, Try.ntmps5
    go_wp2_with fail
    refine SM.out.mono ?_
    rintro e w2 ⟨rfl, b2⟩
    have q0 := (b2.cell (p := ⟨w.heap.size, 0, none⟩) z1).trans p0
    have q1 := (b2.cell (p := ⟨w.heap.size, 1, none⟩) z1).trans p1
    have P0 := fun d os => cell_regrown q0 d os
    have P1 := fun d os => cell_regrown q1 d os
    have B2 := Lib.hid (B1.out.trans (b2.mono B1.out.size))
    have X2 := Lib.hid b2
    have C1 := Lib.hid (fun d os => Calls.regrown_of (w := w2) (d := d) (os := os) (K1.out _ (X2.out.trans ((below_regrown w2 d os).mono X2.out.size))))
    have C2 := Lib.hid (fun d os => Calls.regrown_of (w := w2) (d := d) (os := os) (K2.out _ (X2.out.trans ((below_regrown w2 d os).mono X2.out.size))))
    have C3 := Lib.hid (fun d os => Calls.regrown_of (w := w2) (d := d) (os := os) (K3.out _ (X2.out.trans ((below_regrown w2 d os).mono X2.out.size))))
    have C4 := Lib.hid (fun d os => Calls.regrown_of (w := w2) (d := d) (os := os) (K4.out _ (X2.out.trans ((below_regrown w2 d os).mono X2.out.size))))
    have C5 := Lib.hid (fun d os => Calls.regrown_of (w := w2) (d := d) (os := os) (E.out _))
    clear b2 SM K1 K2 K3 K4 E p0 p1
    cases y
    all_goals
      go_wp2_with fail
      refine wp_region_quiet_below (by kernel_rfl) (by kernel_rfl) ?_
      repeat (go_big_quiet_step (first | with_reducible exact C1.out _ _ | with_reducible exact C2.out _ _ | with_reducible exact C3.out _ _ | with_reducible exact C4.out _ _ | with_reducible exact C5.out _ _))
      refine wpQuiet_nil ?_
      intro w4 hw4
      have B4 := Lib.hid (regrown_below B2.out hw4)
      clear hw4 P0 P1 C1 C2 C3 C4 C5 q0 q1
      go_wp2_with fail
      go_ret
      exact ⟨rfl, B4.out⟩
set_option maxRecDepth 100000 in
set_option maxHeartbeats 8000000 in
theorem nexts_law (lv : Value) (l : List Cl) (_ : l.length ≤ 9223372036854775807) (_ : OkC l) (xv : Value) (x : List Ex) (_ : x.length ≤ 9223372036854775807) (_ : OkX x) (i d : Int) (w : World) (h1 : LstC w lv l) (h2 : LstX w xv x) : Calls Try.prog 7 #[.agg #[lv, xv], .int .i64 i, .int .i64 d] w fun e w' => e = .returned (.bool true) ∧ Below w.heap.size w w' := by
  have E := Lib.hid (fun W => ex_any W)
  obtain ⟨w1, hw1⟩ : ∃ W, w.alloc (.cells #[lv, xv] 35 (0, 0)) = W := ⟨_, rfl⟩
  obtain ⟨b1, p0, p1, z1⟩ := box_sv hw1
  have B1 := Lib.hid b1
  have H1 := Lib.hid (h1.below b1)
  have H2 := Lib.hid (h2.below b1)
  have SM := Lib.hid (small_any lv xv l x w1 H1.out H2.out)
  clear h1 h2 b1
  cases hb : smlB l x with
  | false =>
    rw [hb] at SM
    clear hb H1 H2
    go_enter Try.func7, Try.ntmps7
    go_wp2_with fail
    refine SM.out.mono ?_
    rintro e w2 ⟨rfl, b2⟩
    have B2 := Lib.hid (B1.out.trans (b2.mono B1.out.size))
    clear b2 SM B1
    go_wp2_with fail
    refine (E.out _).mono ?_
    rintro e w3 ⟨rfl, b3⟩
    have B3 := Lib.hid (B2.out.trans (b3.mono B2.out.size))
    clear b3 B2 E
    go_wp2_with fail
    go_ret
    exact ⟨rfl, B3.out⟩
  | true =>
    rw [hb] at SM
    obtain ⟨-, hx20⟩ := smlB_of hb
    have K1 := Lib.hid (fun W (hW : Below w1.heap.size w1 W) => next_any lv xv l x (by omega) i d W (H1.out.below hW) (H2.out.below hW))
    have K2 := Lib.hid (fun W (hW : Below w1.heap.size w1 W) => rnext_any lv xv l x (by omega) i d W (H1.out.below hW) (H2.out.below hW))
    have K3 := Lib.hid (fun W (hW : Below w1.heap.size w1 W) => prev_any lv xv l x (by omega) i d W (H1.out.below hW) (H2.out.below hW))
    have K4 := Lib.hid (fun W (hW : Below w1.heap.size w1 W) => rprev_any lv xv l x (by omega) i d W (H1.out.below hW) (H2.out.below hW))
    generalize (nxtT (actT l x i) d).1 = r at K1 K2
    generalize (nxtT (actT l x i) d).2 = y at K1 K2
    generalize (prvT (actT l x i) d).1 = r2 at K3 K4
    generalize (prvT (actT l x i) d).2 = y2 at K3 K4
    have t1 := beq_true (a := r) rfl
    have t2 := beq_true (a := r2) rfl
    have P := Lib.hid (fun W (hW : Below w1.heap.size w1 W) => And.intro ((hW.cell (p := ⟨w.heap.size, 0, none⟩) z1).trans p0) ((hW.cell (p := ⟨w.heap.size, 1, none⟩) z1).trans p1))
    clear hb hx20 H1 H2
    go_enter Try.func7, Try.ntmps7
    go_wp2_with fail
    refine SM.out.mono ?_
    rintro e w2 ⟨rfl, b2⟩
    have X2 := Lib.hid b2
    clear b2 SM p0 p1
    obtain ⟨q0, q1⟩ := P.out w2 X2.out
    go_wp2_with fail
    refine (K1.out w2 X2.out).mono ?_
    rintro e w3 ⟨rfl, b⟩
    have X3 := Lib.hid (X2.out.trans (b.mono X2.out.size))
    clear b X2 q0 q1 K1
    obtain ⟨q0, q1⟩ := P.out w3 X3.out
    go_wp2_with fail
    refine (K2.out w3 X3.out).mono ?_
    rintro e w4 ⟨rfl, b⟩
    have X4 := Lib.hid (X3.out.trans (b.mono X3.out.size))
    clear b X3 q0 q1 K2
    obtain ⟨q0, q1⟩ := P.out w4 X4.out
    go_wp2_with fail
    refine (K3.out w4 X4.out).mono ?_
    rintro e w5 ⟨rfl, b⟩
    have X5 := Lib.hid (X4.out.trans (b.mono X4.out.size))
    clear b X4 q0 q1 K3
    obtain ⟨q0, q1⟩ := P.out w5 X5.out
    go_wp2_with fail
    refine (K4.out w5 X5.out).mono ?_
    rintro e w6 ⟨rfl, b⟩
    have X6 := Lib.hid (X5.out.trans (b.mono X5.out.size))
    clear b X5 q0 q1 K4
    cases y
    all_goals
      cases y2
      all_goals
        go_wp2_with fail
        refine (E.out _).mono ?_
        rintro e w7 ⟨rfl, b⟩
        have X7 := Lib.hid (X6.out.trans (b.mono X6.out.size))
        clear b E
        go_wp2_with fail
        go_ret
        exact ⟨rfl, B1.out.trans (X7.out.mono B1.out.size)⟩
end Go.Proofs.Ytlbockpaeacigaa
