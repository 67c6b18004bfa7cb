/-
  The seven laws on sets of small ints: each call answers true; nothing that existed before the call has changed behind it. Condition: the table of math/bits as its initialiser lays it.
-/
import Derived.Test.YtdgbahmecjcljaaDoorBExa
namespace Go.Proofs.YtdgbahmecjcljaaDoor
open Go.RowKit

theorem eqw (x : Nat) : ((x : Int) == (x : Int)) = true := beq_true rfl
theorem eqn (x : Nat) : (x == x) = true := by simp
set_option maxHeartbeats 2000000 in
theorem makes_law (v : Value) (l : List Int) (hl : l.length ≤ 9223372036854775807) (i j : Int) (w : World) (hg : Good w) (h : LstI w v l) : Calls Tryd.prog 3 #[v, .int .i64 i, .int .i64 j] w fun e w' => e = .returned (.bool true) ∧ Below w.heap.size w w' := by
  by_cases hb : 200 < l.length
  · have g : (200 : Int) < (l.length : Int) := by omega
    obtain ⟨A, c, rfl, -⟩ := h
    clear hb
    go_enter Tryd.func3, Tryd.ntmps3
    go_wp2_with fail
    refine (example_holds _ hg).mono ?_
    rintro e w1 ⟨rfl, b1⟩
    go_wp2_with fail
    go_ret
    exact ⟨rfl, b1⟩
  · have g : decide ((200 : Int) < (l.length : Int)) = false := by simp; omega
    have O1 := Lib.hid (fun W hW => of_any v l (by omega) W hW)
    have O2 := Lib.hid (fun W hW => rof_any v l (by omega) W hW)
    have R1 := Lib.hid (fun W => range_any i j W)
    have R2 := Lib.hid (fun W => rrange_any i j W)
    have H := Lib.hid h
    obtain ⟨A, c, rfl, -⟩ := h
    clear hb
    generalize setOfL l = x at O1 O2
    generalize diffB (lowN j) (lowN i) = y at R1 R2
    have g1 := eqw x
    have g2 := eqn x
    have g3 := eqw y
    have g4 := eqn y
    go_enter Tryd.func3, Tryd.ntmps3
    go_wp2_with fail
    refine (O1.out _ H.out).mono ?_
    rintro e w' ⟨rfl, rfl⟩
    go_wp2_with fail
    refine (O2.out _ H.out).mono ?_
    rintro e w' ⟨rfl, rfl⟩
    go_wp2_with fail
    refine (R1.out _).mono ?_
    rintro e w' ⟨rfl, rfl⟩
    go_wp2_with fail
    refine (R2.out _).mono ?_
    rintro e w' ⟨rfl, rfl⟩
    go_wp2_with fail
    refine (example_holds _ hg).mono ?_
    rintro e w1 ⟨rfl, b1⟩
    go_wp2_with fail
    go_ret
    exact ⟨rfl, b1⟩
set_option maxHeartbeats 2000000 in
theorem elements_law (s : Nat) (hs : W64 s) (i : Int) (w : World) (hg : Good w) : Calls Tryd.prog 4 #[.int .u64 (s : Int), .int .i64 i] w fun e w' => e = .returned (.bool true) ∧ Below w.heap.size w w' := by
  have A1 := Lib.hid (fun W => has_any s hs i W)
  have A2 := Lib.hid (fun W => rhas_any s hs i W)
  have B1 := Lib.hid (fun W => with_any s hs i W)
  have B2 := Lib.hid (fun W => rwith_any s hs i W)
  have C1 := Lib.hid (fun W => without_any s hs i W)
  have C2 := Lib.hid (fun W => rwithout_any s hs i W)
  generalize hasB s i = x at A1 A2
  generalize s ||| one i = y at B1 B2
  generalize diffB s (one i) = z at C1 C2
  have g1 : (x == x) = true := by simp
  have g2 := eqw y
  have g3 := eqn y
  have g4 := eqw z
  have g5 := eqn z
  go_enter Tryd.func4, Tryd.ntmps4
  go_wp2_with fail
  refine (A1.out _).mono ?_
  rintro e w' ⟨rfl, rfl⟩
  go_wp2_with fail
  refine (A2.out _).mono ?_
  rintro e w' ⟨rfl, rfl⟩
  go_wp2_with fail
  refine (B1.out _).mono ?_
  rintro e w' ⟨rfl, rfl⟩
  go_wp2_with fail
  refine (B2.out _).mono ?_
  rintro e w' ⟨rfl, rfl⟩
  go_wp2_with fail
  refine (C1.out _).mono ?_
  rintro e w' ⟨rfl, rfl⟩
  go_wp2_with fail
  refine (C2.out _).mono ?_
  rintro e w' ⟨rfl, rfl⟩
  go_wp2_with fail
  refine (example_holds _ hg).mono ?_
  rintro e w1 ⟨rfl, b1⟩
  go_wp2_with fail
  go_ret
  exact ⟨rfl, b1⟩
set_option maxHeartbeats 2000000 in
theorem combines_law (s : Nat) (hs : W64 s) (t : Nat) (ht : W64 t) (w : World) (hg : Good w) : Calls Tryd.prog 5 #[.int .u64 (s : Int), .int .u64 (t : Int)] w fun e w' => e = .returned (.bool true) ∧ Below w.heap.size w w' := by
  have A1 := Lib.hid (fun W => union_any s t hs ht W)
  have A2 := Lib.hid (fun W => runion_any s t hs ht W)
  have B1 := Lib.hid (fun W => intersect_any s t hs ht W)
  have B2 := Lib.hid (fun W => rinter_any s t hs ht W)
  have C1 := Lib.hid (fun W => minus_any s t hs ht W)
  have C2 := Lib.hid (fun W => rminus_any s t hs ht W)
  have D := Lib.hid (fun W => within_any s t hs ht W)
  generalize s ||| t = x at A1 A2
  generalize s &&& t = y at B1 B2
  generalize diffB s t = z at C1 C2 D
  have g1 := eqw x
  have g2 := eqn x
  have g3 := eqw y
  have g4 := eqn y
  have g5 := eqw z
  have g6 := eqn z
  by_cases hz : z = 0
  all_goals
    have d : decide (z = 0) = decide (z = 0) := rfl
    first
      | (rw [decide_eq_true hz] at D; have k1 : ((z : Int) == 0) = true := beq_true (by omega); have k2 : (z == 0) = true := by simp [hz])
      | (rw [decide_eq_false hz] at D; have k1 : ((z : Int) == 0) = false := beq_false (by omega); have k2 : (z == 0) = false := by simp [hz])
    clear hz d
    go_enter Tryd.func5, Tryd.ntmps5
    go_wp2_with fail
    refine (A1.out _).mono ?_
    rintro e w' ⟨rfl, rfl⟩
    go_wp2_with fail
    refine (A2.out _).mono ?_
    rintro e w' ⟨rfl, rfl⟩
    go_wp2_with fail
    refine (B1.out _).mono ?_
    rintro e w' ⟨rfl, rfl⟩
    go_wp2_with fail
    refine (B2.out _).mono ?_
    rintro e w' ⟨rfl, rfl⟩
    go_wp2_with fail
    refine (C1.out _).mono ?_
    rintro e w' ⟨rfl, rfl⟩
    go_wp2_with fail
    refine (C2.out _).mono ?_
    rintro e w' ⟨rfl, rfl⟩
    go_wp2_with fail
    refine (D.out _).mono ?_
    rintro e w' ⟨rfl, rfl⟩
    go_wp2_with fail
    refine (C2.out _).mono ?_
    rintro e w' ⟨rfl, rfl⟩
    go_wp2_with fail
    refine (example_holds _ hg).mono ?_
    rintro e w1 ⟨rfl, b1⟩
    go_wp2_with fail
    go_ret
    exact ⟨rfl, b1⟩
end Go.Proofs.YtdgbahmecjcljaaDoor
