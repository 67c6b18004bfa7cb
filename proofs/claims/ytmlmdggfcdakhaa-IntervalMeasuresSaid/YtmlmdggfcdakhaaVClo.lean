/-
  The three conditions that combine is handed: what each answers, from what the two functions that it has captured answer. Condition: none beyond each theorem's own hypotheses.
-/
import Derived.Test.YtmlmdggfcdakhaaVComb
namespace Go.Proofs.Ytmlmdggfcdakhaa
open Go.RowKit

set_option maxHeartbeats 2000000 in
theorem union_clo (x : Int) (B1 B2 : Nat) (K1 K2 : FuncId) (c1 c2 : Array Value) (p q : Bool) (w : World) (h1 : w.cell? ⟨B1, 0, none⟩ = some (.func (.func K1) #[] c1)) (h2 : w.cell? ⟨B2, 0, none⟩ = some (.func (.func K2) #[] c2))
    (e1 : ∀ args W, (callFunc K1 args).run Try.prog W = .ok (.enter K1 args) W) (e2 : ∀ args W, (callFunc K2 args).run Try.prog W = .ok (.enter K2 args) W)
    (a1 : ∀ W, Below w.heap.size w W → Calls Try.prog K1 (#[.int .i64 x] ++ c1) W fun e w' => e = .returned (.bool p) ∧ Below W.heap.size W w') (a2 : ∀ W, Below w.heap.size w W → Calls Try.prog K2 (#[.int .i64 x] ++ c2) W fun e w' => e = .returned (.bool q) ∧ Below W.heap.size W w') :
    Calls Try.prog 35 #[.int .i64 x, .pointer (some ⟨B1, 0, none⟩), .pointer (some ⟨B2, 0, none⟩)] w fun e w' => e = .returned (.bool (p || q)) ∧ Below w.heap.size w w' := by
  have hb2 := World.block_lt_of_cell? _ _ h2
  have D1 := Lib.hid (a1 w (Below.refl _ _))
  have D2 := Lib.hid a2
  clear a1 a2
  cases p
  · cases q
    all_goals
      go_enter Try.func35, Try.ntmps35
      go_wp2_with fail
      refine D1.out.mono ?_
      rintro e w1 ⟨rfl, b1⟩
      have y2 := (b1.cell (p := ⟨B2, 0, none⟩) hb2).trans h2
      have E2 := Lib.hid (D2.out w1 b1)
      have B1' := Lib.hid b1
      clear b1 D1 D2 h1 h2 e1
      go_wp2_with fail
      refine E2.out.mono ?_
      rintro e w2 ⟨rfl, b2⟩
      have B2' := Lib.hid (B1'.out.trans (b2.mono B1'.out.size))
      clear b2 E2 y2 B1' e2
      go_wp2_with fail
      go_ret
      exact ⟨rfl, B2'.out⟩
  · go_enter Try.func35, Try.ntmps35
    go_wp2_with fail
    refine D1.out.mono ?_
    rintro e w1 ⟨rfl, b1⟩
    have B1' := Lib.hid b1
    clear b1 D1 D2 h1 h2 e1 e2
    go_wp2_with fail
    go_ret
    exact ⟨ret_bool (by cases q <;> rfl), B1'.out⟩
set_option maxHeartbeats 2000000 in
theorem meet_clo (x : Int) (B1 B2 : Nat) (K1 K2 : FuncId) (c1 c2 : Array Value) (p q : Bool) (w : World) (h1 : w.cell? ⟨B1, 0, none⟩ = some (.func (.func K1) #[] c1)) (h2 : w.cell? ⟨B2, 0, none⟩ = some (.func (.func K2) #[] c2))
    (e1 : ∀ args W, (callFunc K1 args).run Try.prog W = .ok (.enter K1 args) W) (e2 : ∀ args W, (callFunc K2 args).run Try.prog W = .ok (.enter K2 args) W)
    (a1 : ∀ W, Below w.heap.size w W → Calls Try.prog K1 (#[.int .i64 x] ++ c1) W fun e w' => e = .returned (.bool p) ∧ Below W.heap.size W w') (a2 : ∀ W, Below w.heap.size w W → Calls Try.prog K2 (#[.int .i64 x] ++ c2) W fun e w' => e = .returned (.bool q) ∧ Below W.heap.size W w') :
    Calls Try.prog 36 #[.int .i64 x, .pointer (some ⟨B1, 0, none⟩), .pointer (some ⟨B2, 0, none⟩)] w fun e w' => e = .returned (.bool (p && q)) ∧ Below w.heap.size w w' := by
  have hb2 := World.block_lt_of_cell? _ _ h2
  have D1 := Lib.hid (a1 w (Below.refl _ _))
  have D2 := Lib.hid a2
  clear a1 a2
  cases p
  · go_enter Try.func36, Try.ntmps36
    go_wp2_with fail
    refine D1.out.mono ?_
    rintro e w1 ⟨rfl, b1⟩
    have B1' := Lib.hid b1
    clear b1 D1 D2 h1 h2 e1 e2
    go_wp2_with fail
    go_ret
    exact ⟨ret_bool (by cases q <;> rfl), B1'.out⟩
  · cases q
    all_goals
      go_enter Try.func36, Try.ntmps36
      go_wp2_with fail
      refine D1.out.mono ?_
      rintro e w1 ⟨rfl, b1⟩
      have y2 := (b1.cell (p := ⟨B2, 0, none⟩) hb2).trans h2
      have E2 := Lib.hid (D2.out w1 b1)
      have B1' := Lib.hid b1
      clear b1 D1 D2 h1 h2 e1
      go_wp2_with fail
      refine E2.out.mono ?_
      rintro e w2 ⟨rfl, b2⟩
      have B2' := Lib.hid (B1'.out.trans (b2.mono B1'.out.size))
      clear b2 E2 y2 B1' e2
      go_wp2_with fail
      go_ret
      exact ⟨rfl, B2'.out⟩
set_option maxHeartbeats 2000000 in
theorem sub_clo (x : Int) (B1 B2 : Nat) (K1 K2 : FuncId) (c1 c2 : Array Value) (p q : Bool) (w : World) (h1 : w.cell? ⟨B1, 0, none⟩ = some (.func (.func K1) #[] c1)) (h2 : w.cell? ⟨B2, 0, none⟩ = some (.func (.func K2) #[] c2))
    (e1 : ∀ args W, (callFunc K1 args).run Try.prog W = .ok (.enter K1 args) W) (e2 : ∀ args W, (callFunc K2 args).run Try.prog W = .ok (.enter K2 args) W)
    (a1 : ∀ W, Below w.heap.size w W → Calls Try.prog K1 (#[.int .i64 x] ++ c1) W fun e w' => e = .returned (.bool p) ∧ Below W.heap.size W w') (a2 : ∀ W, Below w.heap.size w W → Calls Try.prog K2 (#[.int .i64 x] ++ c2) W fun e w' => e = .returned (.bool q) ∧ Below W.heap.size W w') :
    Calls Try.prog 37 #[.int .i64 x, .pointer (some ⟨B1, 0, none⟩), .pointer (some ⟨B2, 0, none⟩)] w fun e w' => e = .returned (.bool (p && !q)) ∧ Below w.heap.size w w' := by
  have hb2 := World.block_lt_of_cell? _ _ h2
  have D1 := Lib.hid (a1 w (Below.refl _ _))
  have D2 := Lib.hid a2
  clear a1 a2
  cases p
  · go_enter Try.func37, Try.ntmps37
    go_wp2_with fail
    refine D1.out.mono ?_
    rintro e w1 ⟨rfl, b1⟩
    have B1' := Lib.hid b1
    clear b1 D1 D2 h1 h2 e1 e2
    go_wp2_with fail
    go_ret
    exact ⟨ret_bool (by cases q <;> rfl), B1'.out⟩
  · cases q
    all_goals
      go_enter Try.func37, Try.ntmps37
      go_wp2_with fail
      refine D1.out.mono ?_
      rintro e w1 ⟨rfl, b1⟩
      have y2 := (b1.cell (p := ⟨B2, 0, none⟩) hb2).trans h2
      have E2 := Lib.hid (D2.out w1 b1)
      have B1' := Lib.hid b1
      clear b1 D1 D2 h1 h2 e1
      go_wp2_with fail
      refine E2.out.mono ?_
      rintro e w2 ⟨rfl, b2⟩
      have B2' := Lib.hid (B1'.out.trans (b2.mono B1'.out.size))
      clear b2 E2 y2 B1' e2
      go_wp2_with fail
      go_ret
      exact ⟨rfl, B2'.out⟩
end Go.Proofs.Ytmlmdggfcdakhaa
