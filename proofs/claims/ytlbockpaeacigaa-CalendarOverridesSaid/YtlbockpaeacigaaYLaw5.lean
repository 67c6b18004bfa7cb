/-
  The law CalendarDays: it answers true for every input; nothing that existed before the call has changed behind it. Condition: none beyond lengths of 63 bits.
-/
import Derived.Test.YtlbockpaeacigaaYLaw4
import Derived.Test.YtlbockpaeacigaaYRDys
namespace Go.Proofs.Ytlbockpaeacigaa
open Go.RowKit

theorem far_list {f : FuncId} {args : Array Value} {w W : World} {D : List Int} (h : Calls Try.prog f args W fun e w' => ∃ u, e = .returned u ∧ OwnI w' W.heap.size u D ∧ Below W.heap.size W w') (hb : Below w.heap.size w W) :
    Calls Try.prog f args W fun e w' => ∃ u, e = .returned u ∧ LstI w' u D ∧ Below w.heap.size w w' := h.mono fun _ _ ⟨u, he, ho, hc⟩ => ⟨u, he, OwnI.lst ho, hb.trans (hc.mono hb.size)⟩
theorem far {f : FuncId} {args : Array Value} {x : Ending} {w W : World} (h : Calls Try.prog f args W fun e w' => e = x ∧ Below W.heap.size W w') (hb : Below w.heap.size w W) :
    Calls Try.prog f args W fun e w' => e = x ∧ Below w.heap.size w w' := h.mono fun _ _ ⟨he, hc⟩ => ⟨he, hb.trans (hc.mono hb.size)⟩
set_option maxRecDepth 100000 in
set_option maxHeartbeats 16000000 in
theorem days_law (lv : Value) (l : List Cl) (_ : l.length ≤ 9223372036854775807) (_ : OkC l) (xv : Value) (x : List Ex) (_ : x.length ≤ 9223372036854775807) (_ : OkX x) (i p q : Int) (w : World) (h1 : LstC w lv l) (h2 : LstX w xv x) : Calls Try.prog 6 #[.agg #[lv, xv], .int .i64 i, .agg #[.int .i64 p, .int .i64 q]] w fun e w' => e = .returned (.bool true) ∧ Below w.heap.size w w' := by
  have E := Lib.hid (fun W => ex_any W)
  obtain ⟨w1, hw1⟩ : ∃ W, w.alloc (.cells #[lv, xv] 35 (0, 0)) = W := ⟨_, rfl⟩
  obtain ⟨b1, p0, p1, z1⟩ := box_sv hw1
  obtain ⟨w2, hw2⟩ : ∃ W, w1.alloc (.cells #[.int .i64 p, .int .i64 q] 41 (0, 0)) = W := ⟨_, rfl⟩
  obtain ⟨b2, q0, q1, z2⟩ := box_sp hw2
  have B2 := Lib.hid (b1.trans (b2.mono b1.size))
  have P := Lib.hid (fun W (hW : Below w2.heap.size w2 W) => And.intro (And.intro ((hW.cell (p := ⟨w.heap.size, 0, none⟩) (by show w.heap.size < _; omega)).trans ((b2.cell (p := ⟨w.heap.size, 0, none⟩) z1).trans p0)) ((hW.cell (p := ⟨w.heap.size, 1, none⟩) (by show w.heap.size < _; omega)).trans ((b2.cell (p := ⟨w.heap.size, 1, none⟩) z1).trans p1))) (And.intro ((hW.cell (p := ⟨w1.heap.size, 0, none⟩) z2).trans q0) ((hW.cell (p := ⟨w1.heap.size, 1, none⟩) z2).trans q1)))
  have H1 := Lib.hid (h1.below B2.out)
  have H2 := Lib.hid (h2.below B2.out)
  have SM := Lib.hid (small_any lv xv l x w2 H1.out H2.out)
  have hz2 : w.heap.size ≤ w2.heap.size := B2.out.size
  clear h1 h2 b1 b2 p0 p1 q0 q1
  obtain ⟨⟨p0, p1⟩, -, -⟩ := P.out w2 (Below.refl _ _)
  cases hb : smlB l x with
  | false =>
    rw [hb] at SM
    clear hb H1 H2
    go_enter Try.func6, Try.ntmps6
    go_wp2_with fail
    refine SM.out.mono ?_
    rintro e w3 ⟨rfl, b⟩
    have X3 := Lib.hid b
    obtain ⟨-, s0, s1⟩ := P.out w3 X3.out
    clear b SM p0 p1
    go_wp2_with fail
    refine (E.out _).mono ?_
    rintro e w4 ⟨rfl, b⟩
    have X4 := Lib.hid (X3.out.trans (b.mono X3.out.size))
    clear b E
    go_wp2_with fail
    go_ret
    exact ⟨rfl, B2.out.trans (X4.out.mono hz2)⟩
  | true =>
    rw [hb] at SM
    obtain ⟨-, hx20⟩ := smlB_of hb
    clear hb
    by_cases g1 : p < -1048576
    · clear H1 H2 hx20
      go_enter Try.func6, Try.ntmps6
      go_wp2_with fail
      refine SM.out.mono ?_
      rintro e w3 ⟨rfl, b⟩
      have X3 := Lib.hid b
      obtain ⟨-, s0, s1⟩ := P.out w3 X3.out
      clear b SM p0 p1
      go_wp2_with fail
      refine (E.out _).mono ?_
      rintro e w4 ⟨rfl, b⟩
      have X4 := Lib.hid (X3.out.trans (b.mono X3.out.size))
      clear b E
      go_wp2_with fail
      go_ret
      exact ⟨rfl, B2.out.trans (X4.out.mono hz2)⟩
    have d1 : decide (p < -1048576) = false := decide_eq_false g1
    by_cases g2 : 1048576 < q
    · clear H1 H2 hx20 g1
      go_enter Try.func6, Try.ntmps6
      go_wp2_with fail
      refine SM.out.mono ?_
      rintro e w3 ⟨rfl, b⟩
      have X3 := Lib.hid b
      obtain ⟨-, s0, s1⟩ := P.out w3 X3.out
      clear b SM p0 p1
      go_wp2_with fail
      refine (E.out _).mono ?_
      rintro e w4 ⟨rfl, b⟩
      have X4 := Lib.hid (X3.out.trans (b.mono X3.out.size))
      clear b E
      go_wp2_with fail
      go_ret
      exact ⟨rfl, B2.out.trans (X4.out.mono hz2)⟩
    have d2 : decide (1048576 < q) = false := decide_eq_false g2
    by_cases g3 : q < p
    · clear H1 H2 hx20 g1 g2
      go_enter Try.func6, Try.ntmps6
      go_wp2_with fail
      refine SM.out.mono ?_
      rintro e w3 ⟨rfl, b⟩
      have X3 := Lib.hid b
      obtain ⟨-, s0, s1⟩ := P.out w3 X3.out
      clear b SM p0 p1
      go_wp2_with fail
      refine (E.out _).mono ?_
      rintro e w4 ⟨rfl, b⟩
      have X4 := Lib.hid (X3.out.trans (b.mono X3.out.size))
      clear b E
      go_wp2_with fail
      go_ret
      exact ⟨rfl, B2.out.trans (X4.out.mono hz2)⟩
    have d3 : decide (q < p) = false := decide_eq_false g3
    have hpq : (-1048576 ≤ p ∧ p ≤ q) ∧ q ≤ 1048576 := by omega
    by_cases g4 : 400 < q - p
    · clear H1 H2 hx20 g1 g2 g3
      go_enter Try.func6, Try.ntmps6
      go_wp2_with fail
      refine SM.out.mono ?_
      rintro e w3 ⟨rfl, b⟩
      have X3 := Lib.hid b
      obtain ⟨-, s0, s1⟩ := P.out w3 X3.out
      clear b SM p0 p1
      go_wp2_with fail
      refine (E.out _).mono ?_
      rintro e w4 ⟨rfl, b⟩
      have X4 := Lib.hid (X3.out.trans (b.mono X3.out.size))
      clear b E
      go_wp2_with fail
      go_ret
      exact ⟨rfl, B2.out.trans (X4.out.mono hz2)⟩
    have d4 : decide ((400 : Int) < q - p) = false := decide_eq_false g4
    have KD := Lib.hid (fun W (hW : Below w2.heap.size w2 W) => days_any lv xv l x (by omega) i p q W (H1.out.below hW) (H2.out.below hW))
    have KR := Lib.hid (fun W (hW : Below w2.heap.size w2 W) => rdays_any lv xv l x (by omega) i p q W (H1.out.below hW) (H2.out.below hW))
    have HL : Hid ((daysT (actT l x i) p q).length ≤ 401) := daysT_le (by omega)
    generalize daysT (actT l x i) p q = D at KD KR HL
    clear H1 H2 hx20 g1 g2 g3 g4
    go_enter Try.func6, Try.ntmps6
    go_wp2_with fail
    refine SM.out.mono ?_
    rintro e w3 ⟨rfl, b⟩
    have BB := Lib.hid b
    obtain ⟨⟨c0, c1⟩, c2, c3⟩ := P.out w3 BB.out
    have C1 := Lib.hid (fun W (hb : Below w3.heap.size w3 W) => far_list (KD.out W (BB.out.trans (hb.mono BB.out.size))) hb)
    clear b SM p0 p1 KD
    go_wp2_with fail
    go_region_held3 (fun W => W.cell? ⟨w.heap.size, 0, none⟩ = some lv ∧ W.cell? ⟨w.heap.size, 1, none⟩ = some xv ∧ W.cell? ⟨w1.heap.size, 0, none⟩ = some (.int .i64 p) ∧ W.cell? ⟨w1.heap.size, 1, none⟩ = some (.int .i64 q)) (first | assumption | (exact ⟨by assumption, by assumption, by assumption, by assumption⟩)) (first
      | (go_at_call 23; with_reducible refine (C1.out _ (by first | exact Below.refl _ _ | exact (Below.refl _ _).drew)).mono ?_; rintro e wa ⟨va, rfl, la, ba⟩; have BB := Lib.hid (BB.out.trans (ba.mono BB.out.size)); have LA := Lib.hid la; obtain ⟨⟨ca0, ca1⟩, ca2, ca3⟩ := P.out wa BB.out; have C2 := Lib.hid (fun W (hb : Below wa.heap.size wa W) => far_list (KR.out W (BB.out.trans (hb.mono BB.out.size))) hb); clear C1 la ba)
      | (go_at_call 24; with_reducible refine (C2.out _ (by first | exact Below.refl _ _ | exact (Below.refl _ _).drew)).mono ?_; rintro e wb ⟨vb, rfl, lb, bb⟩; have BB := Lib.hid (BB.out.trans (bb.mono BB.out.size)); have LA := Lib.hid (LA.out.below bb); have LB := Lib.hid lb; obtain ⟨⟨cb0, cb1⟩, cb2, cb3⟩ := P.out wb BB.out; have C3 := Lib.hid (fun W (hb : Below wb.heap.size wb W) => far (Calls.below (same_any va vb D D (Nat.le_trans HL.out (by decide)) W (LA.out.below hb) (LB.out.below hb))) hb); rw [decide_eq_true (rfl : D = D)] at C3; clear C2 lb bb)
      | (go_at_call 22; with_reducible refine (C3.out _ (by first | exact Below.refl _ _ | exact (Below.refl _ _).drew)).mono ?_; rintro e wc ⟨rfl, bc⟩; have BB := Lib.hid (BB.out.trans (bc.mono BB.out.size)); obtain ⟨⟨cc0, cc1⟩, cc2, cc3⟩ := P.out wc BB.out; have C4 := Lib.hid (fun W (hb : Below wc.heap.size wc W) => far (E.out W) hb); clear C3 bc)
      | (go_at_call 12; with_reducible refine (C4.out _ (by first | exact Below.refl _ _ | exact (Below.refl _ _).drew)).mono ?_; rintro e wd ⟨rfl, bd⟩; have BB := Lib.hid (BB.out.trans (bd.mono BB.out.size)); obtain ⟨⟨cd0, cd1⟩, cd2, cd3⟩ := P.out wd BB.out; clear C4 bd))
    all_goals
      go_wp2_with fail
      go_ret
      exact ⟨rfl, B2.out.trans (BB.out.mono hz2)⟩
end Go.Proofs.Ytlbockpaeacigaa
