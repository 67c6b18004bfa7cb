/-
  The law IntervalContains: true for every input, nothing that existed has changed. Condition: the ends are ints.
-/
import Derived.Test.YtmlmdggfcdakhaaVLaw3
namespace Go.Proofs.Ytmlmdggfcdakhaa
open Go.RowKit

/-- A contract told of an earlier world, to the end. -/
theorem far {f : FuncId} {args : Array Value} {w W : World} {x : Ending} (h : Calls Try.prog f args W fun e w' => e = x ∧ Below W.heap.size W w') (hb : Below w.heap.size w W) : Calls Try.prog f args W fun e w' => e = x ∧ Below w.heap.size w w' :=
  h.mono fun _ _ ⟨he, hc⟩ => ⟨he, hb.trans (hc.mono hb.size)⟩
theorem far_list {f : FuncId} {args : Array Value} {w W : World} {l : List Sp} (h : Calls Try.prog f args W fun e w' => ∃ v', e = .returned v' ∧ LstV w' v' l ∧ Below W.heap.size W w') (hb : Below w.heap.size w W) : Calls Try.prog f args W fun e w' => ∃ v', e = .returned v' ∧ LstV w' v' l ∧ Below w.heap.size w w' :=
  h.mono fun _ _ ⟨v', he, hl, hc⟩ => ⟨v', he, hl, hb.trans (hc.mono hb.size)⟩
set_option maxRecDepth 100000 in
set_option maxHeartbeats 16000000 in
theorem conts_law (v : Value) (l : List Sp) (_ : l.length ≤ 9223372036854775807) (_ : OkS l) (p q : Int) (x : Int) (w : World) (h : LstV w v l) : Calls Try.prog 3 #[v, .agg #[.int .i64 p, .int .i64 q], .int .i64 x] w fun e w' => e = .returned (.bool true) ∧ Below w.heap.size w w' := by
  have hh := h
  obtain ⟨A, c, rfl, -⟩ := hh
  have b0 : Below w.heap.size w (w.alloc (.cells #[.int .i64 p, .int .i64 q] 24 (0, 0))) := (Below.refl _ _).alloc (Nat.le_refl _) _
  have hs0 : w.heap.size < (w.alloc (.cells #[.int .i64 p, .int .i64 q] 24 (0, 0))).heap.size := by simp
  have m0 : (w.alloc (.cells #[.int .i64 p, .int .i64 q] 24 (0, 0))).cell? ⟨w.heap.size, 0, none⟩ = some (.int .i64 p) := by rw [cell_of_row _ _ 0 _ _ _ (heap_alloc_new _ _)]; rfl
  have m1 : (w.alloc (.cells #[.int .i64 p, .int .i64 q] 24 (0, 0))).cell? ⟨w.heap.size, 1, none⟩ = some (.int .i64 q) := by rw [cell_of_row _ _ 1 _ _ _ (heap_alloc_new _ _)]; rfl
  have La := Lib.hid (h.below b0)
  clear h
  by_cases h1 : (30 : Int) < (l.length : Int)
  · clear La m0 m1 hs0
    have B0 := Lib.hid b0
    clear b0
    go_enter Try.func3, Try.ntmps3
    go_wp2_with fail
    refine (ex_any _).mono ?_
    rintro e w1 ⟨rfl, b1⟩
    have BB := Lib.hid (B0.out.trans (b1.mono B0.out.size))
    clear b1 B0
    go_wp2_with fail
    go_ret
    exact ⟨rfl, BB.out⟩
  · have hl : l.length ≤ 30 := by omega
    have d1 : decide ((30 : Int) < (l.length : Int)) = false := decide_eq_false h1
    clear h1
    go_enter Try.func3, Try.ntmps3
    go_wp2_with fail
    generalize w.alloc (.cells #[.int .i64 p, .int .i64 q] 24 (0, 0)) = w0 at La m0 m1 b0 hs0 ⊢
    have CV := Lib.hid (fun W (hb : Below w0.heap.size w0 W) => far (valid_any (p, q) W) hb)
    have CS := Lib.hid (fun W (hb : Below w0.heap.size w0 W) => far_list (spans_any _ l (by omega) W (La.out.below hb)) hb)
    have CC := Lib.hid (fun W1 v1 (h1 : LstV W1 v1 l) (hb1 : Below w0.heap.size w0 W1) W (hb : Below W1.heap.size W1 W) => far (cont_any x v1 l (by omega) W (h1.below hb)) (hb1.trans (hb.mono hb1.size)))
    have CR := Lib.hid (fun W (hb : Below w0.heap.size w0 W) => far (still (rcont_any x _ l (by omega) W (La.out.below hb))) hb)
    have CE := Lib.hid (fun W (hb : Below w0.heap.size w0 W) => far (ex_any W) hb)
    have r0 := Below.refl w0.heap.size w0
    have B0 := Lib.hid b0
    generalize memS l x = r at CC CR
    simp only at CV
    clear b0 La
    have T0 : Hid (w.heap.size < w0.heap.size) := hs0
    rcases (by cases r <;> simp : r = true ∨ r = false) with rfl | rfl <;> rcases (by omega : p < q ∨ ¬ p < q) with hpq | hpq
    all_goals
      have dpq : decide (p < q) = decide (p < q) := rfl
      first | rw [decide_eq_true hpq] at CV | (rw [decide_eq_false hpq] at CV; rw [decide_eq_false hpq] at dpq; have dq : decide (p < q) = false := decide_eq_false hpq; clear hpq)
      clear dpq hs0
      go_region_held3 (fun W => W.cell? ⟨w.heap.size, 0, none⟩ = some (.int .i64 p) ∧ W.cell? ⟨w.heap.size, 1, none⟩ = some (.int .i64 q)) (first | assumption | (exact ⟨by assumption, by assumption⟩)) (first
        | (go_at_call 12; with_reducible refine (CV.out _ (by first | assumption | (apply Below.drew; assumption))).mono ?_; rintro e wa ⟨rfl, ba⟩; have ca0 := (ba.cell (p := ⟨w.heap.size, 0, none⟩) T0.out).trans m0; have ca1 := (ba.cell (p := ⟨w.heap.size, 1, none⟩) T0.out).trans m1)
        | (go_at_call 14; with_reducible refine (CS.out _ (by first | assumption | (apply Below.drew; assumption))).mono ?_; rintro e wb ⟨vb, rfl, lb, bb⟩; have cb0 := (bb.cell (p := ⟨w.heap.size, 0, none⟩) T0.out).trans m0; have cb1 := (bb.cell (p := ⟨w.heap.size, 1, none⟩) T0.out).trans m1; have LB := Lib.hid lb; have RB := Below.refl wb.heap.size wb; clear lb)
        | (go_at_call 13; with_reducible refine (CC.out wb vb LB.out bb _ (by first | assumption | (apply Below.drew; assumption))).mono ?_; rintro e wc ⟨rfl, bc⟩; have cc0 := (bc.cell (p := ⟨w.heap.size, 0, none⟩) T0.out).trans m0; have cc1 := (bc.cell (p := ⟨w.heap.size, 1, none⟩) T0.out).trans m1)
        | (go_at_call 15; with_reducible refine (CR.out _ (by first | assumption | (apply Below.drew; assumption))).mono ?_; rintro e wd ⟨rfl, bd⟩; have cd0 := (bd.cell (p := ⟨w.heap.size, 0, none⟩) T0.out).trans m0; have cd1 := (bd.cell (p := ⟨w.heap.size, 1, none⟩) T0.out).trans m1)
        | (go_at_call 11; with_reducible refine (CE.out _ (by first | assumption | (apply Below.drew; assumption))).mono ?_; rintro e we ⟨rfl, be⟩; have ce0 := (be.cell (p := ⟨w.heap.size, 0, none⟩) T0.out).trans m0; have ce1 := (be.cell (p := ⟨w.heap.size, 1, none⟩) T0.out).trans m1))
      all_goals
        have BE := Lib.hid (B0.out.trans (be.mono B0.out.size))
        clear be bd bc bb ba CV CS CC CR CE
        go_wp2_with fail
        go_ret
        exact ⟨rfl, BE.out⟩
end Go.Proofs.Ytmlmdggfcdakhaa
