/-
  The law DateBijection answers true for every input; nothing that existed before the call has changed behind it. Condition: the tables hold what their initialisers lay; the number is not beyond the greatest int.
-/
import Derived.Test.YtalghfmdaifcgaaDoorDBij
namespace Go.Proofs.YtalghfmdaifcgaaDoor
open Go.RowKit

set_option maxHeartbeats 1000000 in
theorem bij_core (a Y M D : Int) (s : ByteArray) (hl : ¬ (4096 : Int) < s.size) (y m d k k2 y2 m2 d2 : Int) (ok is ok2 is2 : Bool)
    (h1 : ok = false ∨ ok = true ∧ is = true ∧ k = a) (h2 : ok2 = false ∨ ok2 = true ∧ is2 = true ∧ y2 = Y ∧ m2 = M ∧ d2 = D)
    (c1 : ∀ w : World, Good w → Calls Tryd.prog 23 #[.int .i64 a] w fun r w' => r = .returned (.tuple #[.int .i64 y, .int .i64 m, .int .i64 d, .bool ok]) ∧ w = w')
    (c2 : ∀ w : World, Good w → Calls Tryd.prog 21 #[.int .i64 y, .int .i64 m, .int .i64 d] w fun r w' => r = .returned (.tuple #[.int .i64 k, .bool is]) ∧ w = w')
    (c3 : ∀ w : World, Calls Tryd.prog 16 #[.int .i64 a] w fun r w' => r = .returned (.bool ok) ∧ w = w')
    (c4 : ∀ w : World, Good w → Calls Tryd.prog 21 #[.int .i64 Y, .int .i64 M, .int .i64 D] w fun r w' => r = .returned (.tuple #[.int .i64 k2, .bool ok2]) ∧ w = w')
    (c5 : ∀ w : World, Good w → Calls Tryd.prog 23 #[.int .i64 k2] w fun r w' => r = .returned (.tuple #[.int .i64 y2, .int .i64 m2, .int .i64 d2, .bool is2]) ∧ w = w')
    (c6 : ∀ w : World, Good w → Calls Tryd.prog 39 #[.int .i64 a, .int .i64 a, .string s] w fun r w' => r = .returned (.bool true) ∧ Below w.heap.size w w') (w : World) (hg : Good w) :
    Calls Tryd.prog 11 #[.int .i64 a, .agg #[.int .i64 Y, .int .i64 M, .int .i64 D], .string s] w fun r w' => r = .returned (.bool true) ∧ Below w.heap.size w w' := by
  have C1 := Lib.hid c1
  have C2 := Lib.hid c2
  have C3 := Lib.hid c3
  have C4 := Lib.hid c4
  have C5 := Lib.hid c5
  have C6 := Lib.hid c6
  clear c1 c2 c3 c4 c5 c6
  rcases h1 with rfl | ⟨rfl, rfl, rfl⟩
  all_goals
    rcases h2 with rfl | ⟨rfl, rfl, rfl, rfl, rfl⟩
  all_goals
    go_enter Tryd.func11, Tryd.ntmps11
    go_wp2_with fail
    refine (C1.out _ (hg.below ((Below.refl _ _).alloc (Nat.le_refl _) _))).mono ?_
    rintro r w1 ⟨rfl, rfl⟩
    go_wp2_with fail
    refine (C2.out _ (hg.below ((Below.refl _ _).alloc (Nat.le_refl _) _))).mono ?_
    rintro r w1 ⟨rfl, rfl⟩
    go_wp2_with fail
    refine (C3.out _).mono ?_
    rintro r w1 ⟨rfl, rfl⟩
    go_wp2_with fail
    refine (C4.out _ (hg.below ((Below.refl _ _).alloc (Nat.le_refl _) _))).mono ?_
    rintro r w1 ⟨rfl, rfl⟩
    go_wp2_with fail
    refine (C5.out _ (hg.below ((Below.refl _ _).alloc (Nat.le_refl _) _))).mono ?_
    rintro r w1 ⟨rfl, rfl⟩
    go_wp2_with fail
    refine (rel (W := w) (C6.out _ (hg.below ((Below.refl _ _).alloc (Nat.le_refl _) _))) ((Below.refl _ _).alloc (Nat.le_refl _) _)).mono ?_
    rintro r w2 ⟨rfl, b2⟩
    go_wp2_with fail
    refine (rel (W := w) (example_holds _ (hg.below b2)) b2).mono ?_
    rintro r w3 ⟨rfl, b3⟩
    go_wp2_with fail
    go_ret
    exact ⟨rfl, b3⟩
theorem bij_law (a Y M D : Int) (s : ByteArray) (ha : a ≤ 9223372036854775807) (w : World) (hg : Good w) :
    Calls Tryd.prog 11 #[.int .i64 a, .agg #[.int .i64 Y, .int .i64 M, .int .i64 D], .string s] w fun r w' => r = .returned (.bool true) ∧ Below w.heap.size w w' := by
  by_cases hl : (4096 : Int) < s.size
  · go_enter Tryd.func11, Tryd.ntmps11
    go_wp2_with fail
    refine (rel (W := w) (example_holds _ (hg.below ((Below.refl _ _).alloc (Nat.le_refl _) _))) ((Below.refl _ _).alloc (Nat.le_refl _) _)).mono ?_
    rintro e w1 ⟨rfl, b1⟩
    go_wp2_with fail
    go_ret
    exact ⟨rfl, b1⟩
  · obtain ⟨y, m, d, k, ok, is, h1, c1, c2, c3⟩ := civ_back a
    obtain ⟨k2, y2, m2, d2, ok2, is2, h2, c4, c5⟩ := back_civ Y M D
    exact bij_core a Y M D s hl y m d k k2 y2 m2 d2 ok is ok2 is2 h1 h2 c1 c2 c3 c4 c5 (texts_true a a ha s) w hg
end Go.Proofs.YtalghfmdaifcgaaDoor
