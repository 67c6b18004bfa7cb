/-
  The law ParetoCompares: true for every input, nothing that existed has changed. Condition: none.
-/
import Derived.Test.YtokcpgpchiikgaaPExa
namespace Go.Proofs.Ytokcpgpchiikgaa
open Go.RowKit

set_option maxRecDepth 100000 in
set_option maxHeartbeats 16000000 in
theorem compares_law (a b : Vec) (w : World) : Calls Try.prog 3 #[.agg #[.int .i64 a.1, .int .i64 a.2.1, .int .i64 a.2.2.1, .int .i64 a.2.2.2], .agg #[.int .i64 b.1, .int .i64 b.2.1, .int .i64 b.2.2.1, .int .i64 b.2.2.2]] w fun e w' => e = .returned (.bool true) ∧ Below w.heap.size w w' := by
  obtain ⟨w0, hw0, hs, ra, rb, b0⟩ := box_two w a b 22
  have RA := Lib.hid ra
  have RB := Lib.hid rb
  have B0 := Lib.hid b0
  obtain ⟨p0, p1, p2, p3⟩ := box_at ra
  obtain ⟨q0, q1, q2, q3⟩ := box_at rb
  clear ra rb b0
  go_enter Try.func3, Try.ntmps3
  go_wp2_with fail
  clear hw0
  go_region_held3 (fun W => W.cell? ⟨w.heap.size, 0, none⟩ = some (.int .i64 a.1) ∧ W.cell? ⟨w.heap.size, 1, none⟩ = some (.int .i64 a.2.1) ∧ W.cell? ⟨w.heap.size, 2, none⟩ = some (.int .i64 a.2.2.1) ∧ W.cell? ⟨w.heap.size, 3, none⟩ = some (.int .i64 a.2.2.2) ∧ W.cell? ⟨w.heap.size + 1, 0, none⟩ = some (.int .i64 b.1) ∧ W.cell? ⟨w.heap.size + 1, 1, none⟩ = some (.int .i64 b.2.1) ∧ W.cell? ⟨w.heap.size + 1, 2, none⟩ = some (.int .i64 b.2.2.1) ∧ W.cell? ⟨w.heap.size + 1, 3, none⟩ = some (.int .i64 b.2.2.2)) (go_keep) (first | fail)
  · obtain ⟨w1, hw1, hs1, rx, ry, b1⟩ := box_two w0 a b 23
    rw [hs] at rx ry
    rw [hw1]
    have B1 := Lib.hid (B0.out.trans (b1.drew.mono B0.out.size))
    obtain ⟨m0, m1, m2, m3⟩ := box_at (w := w1.drew) rx
    obtain ⟨n0, n1, n2, n3⟩ := box_at (w := w1.drew) ry
    obtain ⟨k0, k1, k2, k3⟩ := box_at ((b1.drew.block w.heap.size (by omega)).trans RA.out)
    obtain ⟨l0, l1, l2, l3⟩ := box_at ((b1.drew.block (w.heap.size + 1) (by omega)).trans RB.out)
    clear hw1 hs1 rx ry b1 p0 p1 p2 p3 q0 q1 q2 q3 RA RB hs
    generalize w1.drew = w2 at *
    have M0 := fun d os => cell_regrown m0 d os
    have M1 := fun d os => cell_regrown m1 d os
    have M2 := fun d os => cell_regrown m2 d os
    have M3 := fun d os => cell_regrown m3 d os
    have N0 := fun d os => cell_regrown n0 d os
    have N1 := fun d os => cell_regrown n1 d os
    have N2 := fun d os => cell_regrown n2 d os
    have N3 := fun d os => cell_regrown n3 d os
    have K0 := fun d os => cell_regrown k0 d os
    have K1 := fun d os => cell_regrown k1 d os
    have K2 := fun d os => cell_regrown k2 d os
    have K3 := fun d os => cell_regrown k3 d os
    have J0 := fun d os => cell_regrown l0 d os
    have J1 := fun d os => cell_regrown l1 d os
    have J2 := fun d os => cell_regrown l2 d os
    have J3 := fun d os => cell_regrown l3 d os
    have D1 := Lib.hid (fun d os => Calls.regrown_of (w := w2) (d := d) (os := os) (dom_any a b _))
    have D2 := Lib.hid (fun d os => Calls.regrown_of (w := w2) (d := d) (os := os) (rdom_any a b _))
    have D3 := Lib.hid (fun d os => Calls.regrown_of (w := w2) (d := d) (os := os) (cmp_any a b _))
    have D4 := Lib.hid (fun d os => Calls.regrown_of (w := w2) (d := d) (os := os) (rcmp_any a b _))
    have D5 := Lib.hid (fun d os => Calls.regrown_of (w := w2) (d := d) (os := os) (ex_any _))
    generalize dom a b = q at D1 D2
    generalize cv a b = r at D3 D4
    have eq := (beq_self_eq_true q : (q == q) = true)
    have er := (beq_self_eq_true r : (r == r) = true)
    clear m0 m1 m2 m3 n0 n1 n2 n3 k0 k1 k2 k3 l0 l1 l2 l3
    go_wp2_with fail
    refine wp_region_quiet_below (by kernel_rfl) (by kernel_rfl) ?_
    repeat (go_big_quiet_step (first | with_reducible exact D1.out _ _ | with_reducible exact D2.out _ _ | with_reducible exact D3.out _ _ | with_reducible exact D4.out _ _ | with_reducible exact D5.out _ _))
    refine wpQuiet_nil ?_
    intro w4 hw4
    have B4 : Hid (Below w.heap.size w w4) := by
      obtain ⟨p, rfl⟩ := hw4
      exact B1.out.trans ((below_regrown w2 p.d p.os).mono B1.out.size)
    clear hw4 B1 D1 D2 D3 D4 D5 M0 M1 M2 M3 N0 N1 N2 N3 K0 K1 K2 K3 J0 J1 J2 J3
    go_wp2_with fail
    go_ret
    exact ⟨rfl, B4.out⟩
  · obtain ⟨w1, hw1, hs1, rx, ry, b1⟩ := box_two w0 b a 23
    rw [hs] at rx ry
    rw [hw1]
    have B1 := Lib.hid (B0.out.trans (b1.drew.mono B0.out.size))
    obtain ⟨m0, m1, m2, m3⟩ := box_at (w := w1.drew) ry
    obtain ⟨n0, n1, n2, n3⟩ := box_at (w := w1.drew) rx
    obtain ⟨k0, k1, k2, k3⟩ := box_at ((b1.drew.block w.heap.size (by omega)).trans RA.out)
    obtain ⟨l0, l1, l2, l3⟩ := box_at ((b1.drew.block (w.heap.size + 1) (by omega)).trans RB.out)
    clear hw1 hs1 rx ry b1 p0 p1 p2 p3 q0 q1 q2 q3 RA RB hs
    generalize w1.drew = w2 at *
    have M0 := fun d os => cell_regrown m0 d os
    have M1 := fun d os => cell_regrown m1 d os
    have M2 := fun d os => cell_regrown m2 d os
    have M3 := fun d os => cell_regrown m3 d os
    have N0 := fun d os => cell_regrown n0 d os
    have N1 := fun d os => cell_regrown n1 d os
    have N2 := fun d os => cell_regrown n2 d os
    have N3 := fun d os => cell_regrown n3 d os
    have K0 := fun d os => cell_regrown k0 d os
    have K1 := fun d os => cell_regrown k1 d os
    have K2 := fun d os => cell_regrown k2 d os
    have K3 := fun d os => cell_regrown k3 d os
    have J0 := fun d os => cell_regrown l0 d os
    have J1 := fun d os => cell_regrown l1 d os
    have J2 := fun d os => cell_regrown l2 d os
    have J3 := fun d os => cell_regrown l3 d os
    have D1 := Lib.hid (fun d os => Calls.regrown_of (w := w2) (d := d) (os := os) (dom_any a b _))
    have D2 := Lib.hid (fun d os => Calls.regrown_of (w := w2) (d := d) (os := os) (rdom_any a b _))
    have D3 := Lib.hid (fun d os => Calls.regrown_of (w := w2) (d := d) (os := os) (cmp_any a b _))
    have D4 := Lib.hid (fun d os => Calls.regrown_of (w := w2) (d := d) (os := os) (rcmp_any a b _))
    have D5 := Lib.hid (fun d os => Calls.regrown_of (w := w2) (d := d) (os := os) (ex_any _))
    generalize dom a b = q at D1 D2
    generalize cv a b = r at D3 D4
    have eq := (beq_self_eq_true q : (q == q) = true)
    have er := (beq_self_eq_true r : (r == r) = true)
    clear m0 m1 m2 m3 n0 n1 n2 n3 k0 k1 k2 k3 l0 l1 l2 l3
    go_wp2_with fail
    refine wp_region_quiet_below (by kernel_rfl) (by kernel_rfl) ?_
    repeat (go_big_quiet_step (first | with_reducible exact D1.out _ _ | with_reducible exact D2.out _ _ | with_reducible exact D3.out _ _ | with_reducible exact D4.out _ _ | with_reducible exact D5.out _ _))
    refine wpQuiet_nil ?_
    intro w4 hw4
    have B4 : Hid (Below w.heap.size w w4) := by
      obtain ⟨p, rfl⟩ := hw4
      exact B1.out.trans ((below_regrown w2 p.d p.os).mono B1.out.size)
    clear hw4 B1 D1 D2 D3 D4 D5 M0 M1 M2 M3 N0 N1 N2 N3 K0 K1 K2 K3 J0 J1 J2 J3
    go_wp2_with fail
    go_ret
    exact ⟨rfl, B4.out⟩
end Go.Proofs.Ytokcpgpchiikgaa
