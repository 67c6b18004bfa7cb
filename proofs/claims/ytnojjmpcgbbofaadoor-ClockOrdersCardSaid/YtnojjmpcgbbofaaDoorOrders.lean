/-
  The law ClockOrders answers true for all integers; nothing that existed before the call has changed behind it. Condition: none.
-/
import Derived.Test.YtnojjmpcgbbofaaDoorOrder
import Derived.Test.YtnojjmpcgbbofaaDoorLaws
namespace Go.Proofs.YtnojjmpcgbbofaaDoor
open Go.RowKit

theorem orders_core (a b : Int) (s t : ByteArray) (x y : Bool) (hx : decide (a < b) = x) (hy : (a == b) = y) (hl : Op.bytesLess s.toList t.toList = x) (he : (s.toList == t.toList) = y)
    (hs : ∀ w : World, Calls Tryd.prog 18 #[.int .i64 a] w fun e w' => e = .returned (.tuple #[.string s, .int .i64 0]) ∧ Below w.heap.size w w')
    (ht : ∀ w : World, Calls Tryd.prog 18 #[.int .i64 b] w fun e w' => e = .returned (.tuple #[.string t, .int .i64 0]) ∧ Below w.heap.size w w') (w : World) :
    Calls Tryd.prog 7 #[.int .i64 a, .int .i64 b] w fun e w' => e = .returned (.bool true) ∧ Below w.heap.size w w' := by
  have HS := Lib.hid hs
  have HT := Lib.hid ht
  clear hs ht
  go_enter Tryd.func7, Tryd.ntmps7
  go_wp2_with fail
  refine (HS.out _).mono ?_
  rintro e w1 ⟨rfl, b1⟩
  go_wp2_with fail
  refine (rel (W := w) (HT.out _) (by assumption)).mono ?_
  rintro e w2 ⟨rfl, b2⟩
  go_wp2_with fail
  refine (rel (W := w) (example_holds _) (by assumption)).mono ?_
  rintro e w3 ⟨rfl, b3⟩
  go_wp2_with fail
  go_ret
  exact ⟨rfl, b3⟩
theorem orders_err (a b : Int) (s t : ByteArray) (x y : Int) (hx : (x != 0) = true ∨ (x != 0) = false ∧ (y != 0) = true)
    (hs : ∀ w : World, Calls Tryd.prog 18 #[.int .i64 a] w fun e w' => e = .returned (.tuple #[.string s, .int .i64 x]) ∧ Below w.heap.size w w')
    (ht : ∀ w : World, Calls Tryd.prog 18 #[.int .i64 b] w fun e w' => e = .returned (.tuple #[.string t, .int .i64 y]) ∧ Below w.heap.size w w') (w : World) :
    Calls Tryd.prog 7 #[.int .i64 a, .int .i64 b] w fun e w' => e = .returned (.bool true) ∧ Below w.heap.size w w' := by
  have HS := Lib.hid hs
  have HT := Lib.hid ht
  clear hs ht
  rcases hx with hx | ⟨hx, hy⟩
  all_goals
    go_enter Tryd.func7, Tryd.ntmps7
    go_wp2_with fail
    refine (HS.out _).mono ?_
    rintro e w1 ⟨rfl, b1⟩
    go_wp2_with fail
    refine (rel (W := w) (HT.out _) (by assumption)).mono ?_
    rintro e w2 ⟨rfl, b2⟩
    go_wp2_with fail
    refine (rel (W := w) (example_holds _) (by assumption)).mono ?_
    rintro e w3 ⟨rfl, b3⟩
    go_wp2_with fail
    go_ret
    exact ⟨rfl, b3⟩
theorem orders_law (a b : Int) (w : World) :
    Calls Tryd.prog 7 #[.int .i64 a, .int .i64 b] w fun e w' => e = .returned (.bool true) ∧ Below w.heap.size w w' := by
  by_cases ha : 0 ≤ a ∧ a ≤ 172800
  · by_cases hb : 0 ≤ b ∧ b ≤ 172800
    · exact orders_core a b (str (timeText a)) (str (timeText b)) (decide (a < b)) (decide (a = b)) rfl (by rw [Bool.eq_iff_iff, beq_iff_eq, decide_eq_true_eq])
        (by rw [Lib.toList_data, Lib.toList_data]; exact time_less a b ha.1 ha.2 hb.1 hb.2) (by rw [Lib.toList_data, Lib.toList_data]; exact time_same a b ha.1 ha.2 hb.1 hb.2)
        (format_yes a ha.1 ha.2) (format_yes b hb.1 hb.2) w
    · exact orders_err a b _ _ 0 10 (Or.inr ⟨rfl, rfl⟩) (format_yes a ha.1 ha.2) (fun w => still (format_no b (by omega) w)) w
  · by_cases hb : 0 ≤ b ∧ b ≤ 172800
    · exact orders_err a b _ _ 10 0 (Or.inl rfl) (fun w => still (format_no a (by omega) w)) (format_yes b hb.1 hb.2) w
    · exact orders_err a b _ _ 10 10 (Or.inl rfl) (fun w => still (format_no a (by omega) w)) (fun w => still (format_no b (by omega) w)) w
end Go.Proofs.YtnojjmpcgbbofaaDoor
