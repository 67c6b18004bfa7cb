/-
  The law on the members of sets of small ints: the call answers true; nothing that existed before the call has changed behind it. Condition: the table of math/bits as its initialiser lays it.
-/
import Derived.Test.YtdgbahmecjcljaaDoorBLaw2
namespace Go.Proofs.YtdgbahmecjcljaaDoor
open Go.RowKit

theorem has_at {s t : Nat} (i : Int) (f : Bool → Bool → Bool) {u : Nat} (h : ∀ j, j < 64 → u.testBit j = f (s.testBit j) (t.testBit j)) (hf : f false false = false) : hasB u i = f (hasB s i) (hasB t i) := by
  unfold hasB
  by_cases hi : 0 ≤ i ∧ i < 64
  · rw [decide_eq_true hi, Bool.true_and, Bool.true_and, Bool.true_and]
    exact h _ (by omega)
  · rw [decide_eq_false hi, Bool.false_and, Bool.false_and, Bool.false_and, hf]
theorem has_one {u : Nat} (i : Int) (h : ∀ j : Nat, j < 64 → i = (j : Int) → u.testBit j = true) : hasB u i = decide (0 ≤ i ∧ i < 64) := by
  unfold hasB
  by_cases hi : 0 ≤ i ∧ i < 64
  · rw [decide_eq_true hi, Bool.true_and]
    exact h _ (by omega) (by omega)
  · rw [decide_eq_false hi, Bool.false_and]
theorem has_none {u : Nat} (i : Int) (h : ∀ j : Nat, j < 64 → i = (j : Int) → u.testBit j = false) : hasB u i = false := by
  unfold hasB
  by_cases hi : 0 ≤ i ∧ i < 64
  · rw [decide_eq_true hi, Bool.true_and]
    exact h _ (by omega) (by omega)
  · rw [decide_eq_false hi, Bool.false_and]
theorem of_one (w : World) (i : Int) : Calls Tryd.prog 11 #[.slice (some ⟨w.heap.size, 0, none⟩) 1 1] (w.alloc (.cells #[.int .i64 i] 3 (0, 0))) fun e w' => e = .returned (.int .u64 ((setOfL [i] : Nat) : Int)) ∧ Below w.heap.size w w' :=
  of_lit w _ [i] rfl 1 rfl (by decide) _ rfl
set_option maxRecDepth 100000 in
set_option maxHeartbeats 4000000 in
theorem members_law (s : Nat) (hs : W64 s) (t : Nat) (ht : W64 t) (i : Int) (w : World) (hg : Good w) : Calls Tryd.prog 9 #[.int .u64 (s : Int), .int .u64 (t : Int), .int .i64 i] w fun e w' => e = .returned (.bool true) ∧ Below w.heap.size w w' := by
  have HG := Lib.hid hg
  have A := Lib.hid (fun W => has_any s hs i W)
  have B := Lib.hid (fun W => has_any t ht i W)
  have U := Lib.hid (fun W => union_any s t hs ht W)
  have HU := Lib.hid (fun W => has_any (s ||| t) (or_lt hs ht) i W)
  rw [has_at (s := s) (t := t) i (fun a b => a || b) (fun j _ => Nat.testBit_or ..) rfl] at HU
  have I := Lib.hid (fun W => intersect_any s t hs ht W)
  have HI := Lib.hid (fun W => has_any (s &&& t) (and_lt hs) i W)
  rw [has_at (s := s) (t := t) i (fun a b => a && b) (fun j _ => Nat.testBit_and ..) rfl] at HI
  have M := Lib.hid (fun W => minus_any s t hs ht W)
  have HM := Lib.hid (fun W => has_any (diffB s t) (diff_lt hs) i W)
  rw [has_at (s := s) (t := t) i (fun a b => a && !b) (fun j hj => diff_bit s t ht j hj) rfl] at HM
  have P := Lib.hid (fun W => with_any s hs i W)
  have HP := Lib.hid (fun W => has_any (s ||| one i) (or_lt hs (one_lt i)) i W)
  rw [has_one (u := s ||| one i) i (fun j hj e => by rw [Nat.testBit_or, one_bit i j hj, decide_eq_true e, Bool.or_true])] at HP
  have Q := Lib.hid (fun W => without_any s hs i W)
  have HQ := Lib.hid (fun W => has_any (diffB s (one i)) (diff_lt hs) i W)
  rw [has_none (u := diffB s (one i)) i (fun j hj e => by rw [diff_bit _ _ (one_lt i) j hj, one_bit i j hj, decide_eq_true e]; simp)] at HQ
  have O := Lib.hid (fun W => of_one W i)
  have HO := Lib.hid (fun W => has_any (setOfL [i]) (set_w _) i W)
  rw [has_one (u := setOfL [i]) i (fun j hj e => by rw [set_bits _ j hj]; simp [e])] at HO
  have ab : (¬ (0 ≤ i ∧ i < 64) → hasB s i = false ∧ hasB t i = false) := fun h => by unfold hasB; rw [decide_eq_false h]; exact ⟨rfl, rfl⟩
  clear hg hs ht
  generalize hasB s i = a at *
  generalize hasB t i = b at *
  generalize s ||| one i = x1 at P HP
  generalize diffB s (one i) = x2 at Q HQ
  generalize s ||| t = x3 at U HU
  generalize s &&& t = x4 at I HI
  generalize diffB s t = x5 at M HM
  generalize setOfL [i] = x6 at O HO
  have ways : (i < 0 ∧ a = false ∧ b = false) ∨ (0 ≤ i ∧ 64 ≤ i ∧ a = false ∧ b = false) ∨ (0 ≤ i ∧ i < 64) := by
    by_cases h0 : i < 0
    · exact Or.inl ⟨h0, ab (by omega)⟩
    · by_cases h1 : i < 64
      · exact Or.inr (Or.inr ⟨by omega, h1⟩)
      · exact Or.inr (Or.inl ⟨by omega, by omega, ab (by omega)⟩)
  clear ab
  rcases ways with ⟨h0, rfl, rfl⟩ | ⟨h0, h1, rfl, rfl⟩ | ⟨h0, h1⟩
  · rw [decide_eq_false (show ¬ (0 ≤ i ∧ i < 64) by omega)] at HP HO
    have d0 : decide (0 ≤ i) = false := decide_eq_false (by omega)
    go_enter Tryd.func9, Tryd.ntmps9
    go_wp2_with fail
    refine (A.out _).mono ?_
    rintro e w' ⟨rfl, rfl⟩
    go_wp2_with fail
    refine (B.out _).mono ?_
    rintro e w' ⟨rfl, rfl⟩
    go_wp2_with fail
    refine (U.out _).mono ?_
    rintro e w' ⟨rfl, rfl⟩
    go_wp2_with fail
    refine (HU.out _).mono ?_
    rintro e w' ⟨rfl, rfl⟩
    go_wp2_with fail
    refine (I.out _).mono ?_
    rintro e w' ⟨rfl, rfl⟩
    go_wp2_with fail
    refine (HI.out _).mono ?_
    rintro e w' ⟨rfl, rfl⟩
    go_wp2_with fail
    refine (M.out _).mono ?_
    rintro e w' ⟨rfl, rfl⟩
    go_wp2_with fail
    refine (HM.out _).mono ?_
    rintro e w' ⟨rfl, rfl⟩
    go_wp2_with fail
    refine (P.out _).mono ?_
    rintro e w' ⟨rfl, rfl⟩
    go_wp2_with fail
    refine (HP.out _).mono ?_
    rintro e w' ⟨rfl, rfl⟩
    go_wp2_with fail
    refine (Q.out _).mono ?_
    rintro e w' ⟨rfl, rfl⟩
    go_wp2_with fail
    refine (HQ.out _).mono ?_
    rintro e w' ⟨rfl, rfl⟩
    go_wp2_with fail
    refine (O.out _).mono ?_
    rintro e w1 ⟨rfl, b1⟩
    have B1 := Lib.hid b1
    clear b1 O
    go_wp2_with fail
    refine (HO.out _).mono ?_
    rintro e w' ⟨rfl, rfl⟩
    go_wp2_with fail
    refine (rel (W := w) (example_holds _ (HG.out.below B1.out)) B1.out).mono ?_
    rintro e w5 ⟨rfl, b5⟩
    go_wp2_with fail
    go_ret
    exact ⟨rfl, b5⟩
  · rw [decide_eq_false (show ¬ (0 ≤ i ∧ i < 64) by omega)] at HP HO
    have d1 : decide (i < 64) = false := decide_eq_false (by omega)
    go_enter Tryd.func9, Tryd.ntmps9
    go_wp2_with fail
    refine (A.out _).mono ?_
    rintro e w' ⟨rfl, rfl⟩
    go_wp2_with fail
    refine (B.out _).mono ?_
    rintro e w' ⟨rfl, rfl⟩
    go_wp2_with fail
    refine (U.out _).mono ?_
    rintro e w' ⟨rfl, rfl⟩
    go_wp2_with fail
    refine (HU.out _).mono ?_
    rintro e w' ⟨rfl, rfl⟩
    go_wp2_with fail
    refine (I.out _).mono ?_
    rintro e w' ⟨rfl, rfl⟩
    go_wp2_with fail
    refine (HI.out _).mono ?_
    rintro e w' ⟨rfl, rfl⟩
    go_wp2_with fail
    refine (M.out _).mono ?_
    rintro e w' ⟨rfl, rfl⟩
    go_wp2_with fail
    refine (HM.out _).mono ?_
    rintro e w' ⟨rfl, rfl⟩
    go_wp2_with fail
    refine (P.out _).mono ?_
    rintro e w' ⟨rfl, rfl⟩
    go_wp2_with fail
    refine (HP.out _).mono ?_
    rintro e w' ⟨rfl, rfl⟩
    go_wp2_with fail
    refine (Q.out _).mono ?_
    rintro e w' ⟨rfl, rfl⟩
    go_wp2_with fail
    refine (HQ.out _).mono ?_
    rintro e w' ⟨rfl, rfl⟩
    go_wp2_with fail
    refine (O.out _).mono ?_
    rintro e w1 ⟨rfl, b1⟩
    have B1 := Lib.hid b1
    clear b1 O
    go_wp2_with fail
    refine (HO.out _).mono ?_
    rintro e w' ⟨rfl, rfl⟩
    go_wp2_with fail
    refine (rel (W := w) (example_holds _ (HG.out.below B1.out)) B1.out).mono ?_
    rintro e w5 ⟨rfl, b5⟩
    go_wp2_with fail
    go_ret
    exact ⟨rfl, b5⟩
  · rw [decide_eq_true (show 0 ≤ i ∧ i < 64 by omega)] at HP HO
    cases a <;> cases b
    all_goals
      simp only [Bool.or_true, Bool.or_false, Bool.and_true, Bool.and_false, Bool.not_true, Bool.not_false] at HU HI HM
      go_enter Tryd.func9, Tryd.ntmps9
      go_wp2_with fail
      refine (A.out _).mono ?_
      rintro e w' ⟨rfl, rfl⟩
      go_wp2_with fail
      refine (B.out _).mono ?_
      rintro e w' ⟨rfl, rfl⟩
      go_wp2_with fail
      refine (U.out _).mono ?_
      rintro e w' ⟨rfl, rfl⟩
      go_wp2_with fail
      refine (HU.out _).mono ?_
      rintro e w' ⟨rfl, rfl⟩
      go_wp2_with fail
      refine (I.out _).mono ?_
      rintro e w' ⟨rfl, rfl⟩
      go_wp2_with fail
      refine (HI.out _).mono ?_
      rintro e w' ⟨rfl, rfl⟩
      go_wp2_with fail
      refine (M.out _).mono ?_
      rintro e w' ⟨rfl, rfl⟩
      go_wp2_with fail
      refine (HM.out _).mono ?_
      rintro e w' ⟨rfl, rfl⟩
      go_wp2_with fail
      refine (P.out _).mono ?_
      rintro e w' ⟨rfl, rfl⟩
      go_wp2_with fail
      refine (HP.out _).mono ?_
      rintro e w' ⟨rfl, rfl⟩
      go_wp2_with fail
      refine (Q.out _).mono ?_
      rintro e w' ⟨rfl, rfl⟩
      go_wp2_with fail
      refine (HQ.out _).mono ?_
      rintro e w' ⟨rfl, rfl⟩
      go_wp2_with fail
      refine (O.out _).mono ?_
      rintro e w1 ⟨rfl, b1⟩
      have B1 := Lib.hid b1
      clear b1 O
      go_wp2_with fail
      refine (HO.out _).mono ?_
      rintro e w' ⟨rfl, rfl⟩
      go_wp2_with fail
      refine (rel (W := w) (example_holds _ (HG.out.below B1.out)) B1.out).mono ?_
      rintro e w5 ⟨rfl, b5⟩
      go_wp2_with fail
      go_ret
      exact ⟨rfl, b5⟩
end Go.Proofs.YtdgbahmecjcljaaDoor
