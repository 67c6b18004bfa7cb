/-
  The law DateOrders answers true for all integers; nothing that existed before the call has changed behind it. Condition: the tables hold what their initialisers lay; no integer is beyond the greatest int.
-/
import Derived.Test.YtalghfmdaifcgaaDoorDLaws2
namespace Go.Proofs.YtalghfmdaifcgaaDoor
open Go.RowKit

/-- Two texts and two errors: one is an error, or the texts compare as x and y say. -/
def Comp (s t : ByteArray) (e f : Int) (x y : Bool) : Prop :=
  (e == 0) = false ∧ (e != 0) = true ∨ (e == 0) = true ∧ (e != 0) = false ∧ (f == 0) = false ∧ (f != 0) = true ∨
    (e == 0) = true ∧ (e != 0) = false ∧ (f == 0) = true ∧ (f != 0) = false ∧ Op.bytesLess s.toList t.toList = x ∧ (s.toList == t.toList) = y

set_option maxHeartbeats 1000000 in
theorem orders_core (a b : Int) (s t s2 t2 : ByteArray) (e f e2 f2 : Int) (x y : Bool) (hx : decide (a < b) = x) (hy : (a == b) = y) (h1 : Comp s t e f x y) (h2 : Comp s2 t2 e2 f2 x y)
    (hs : ∀ w : World, Good w → Calls Tryd.prog 27 #[.int .i64 a] w fun r w' => r = .returned (.tuple #[.string s, .int .i64 e]) ∧ Below w.heap.size w w')
    (ht : ∀ w : World, Good w → Calls Tryd.prog 27 #[.int .i64 b] w fun r w' => r = .returned (.tuple #[.string t, .int .i64 f]) ∧ Below w.heap.size w w')
    (hs2 : ∀ w : World, Good w → Calls Tryd.prog 35 #[.int .i64 a] w fun r w' => r = .returned (.tuple #[.string s2, .int .i64 e2]) ∧ Below w.heap.size w w')
    (ht2 : ∀ w : World, Good w → Calls Tryd.prog 35 #[.int .i64 b] w fun r w' => r = .returned (.tuple #[.string t2, .int .i64 f2]) ∧ Below w.heap.size w w') (w : World) (hg : Good w) :
    Calls Tryd.prog 13 #[.int .i64 a, .int .i64 b] w fun r w' => r = .returned (.bool true) ∧ Below w.heap.size w w' := by
  have S1 := Lib.hid hs
  have T1 := Lib.hid ht
  have S2 := Lib.hid hs2
  have T2 := Lib.hid ht2
  clear hs ht hs2 ht2
  unfold Comp at h1 h2
  rcases h1 with ⟨p1, -⟩ | ⟨p1, -, p2, -⟩ | ⟨p1, -, p2, -, p3, p4⟩
  all_goals
    rcases h2 with ⟨-, q1⟩ | ⟨-, q1, -, q2⟩ | ⟨-, q1, -, q2, q3, q4⟩
  all_goals
    go_enter Tryd.func13, Tryd.ntmps13
    go_wp2_with fail
    refine (S1.out _ hg).mono ?_
    rintro r w1 ⟨rfl, b1⟩
    go_wp2_with fail
    refine (rel (W := w) (T1.out _ (hg.below b1)) b1).mono ?_
    rintro r w2 ⟨rfl, b2⟩
    clear b1
    go_wp2_with fail
    refine (rel (W := w) (S2.out _ (hg.below b2)) b2).mono ?_
    rintro r w3 ⟨rfl, b3⟩
    clear b2
    go_wp2_with fail
    refine (rel (W := w) (T2.out _ (hg.below b3)) b3).mono ?_
    rintro r w4 ⟨rfl, b4⟩
    clear b3
    go_wp2_with fail
    refine (rel (W := w) (example_holds _ (hg.below b4)) b4).mono ?_
    rintro r w5 ⟨rfl, b5⟩
    go_wp2_with fail
    go_ret
    exact ⟨rfl, b5⟩

theorem comp_err1 (s t : ByteArray) (f : Int) (x y : Bool) : Comp s t 11 f x y := Or.inl ⟨rfl, rfl⟩
theorem comp_err2 (s t : ByteArray) (x y : Bool) : Comp s t 0 11 x y := Or.inr (Or.inl ⟨rfl, rfl, rfl, rfl⟩)
theorem comp_ok (l m : List UInt8) (x y : Bool) (h1 : Op.bytesLess l m = x) (h2 : (l == m) = y) : Comp (str l) (str m) 0 0 x y :=
  Or.inr (Or.inr ⟨rfl, rfl, rfl, rfl, by rw [Lib.toList_data, Lib.toList_data]; exact h1, by rw [Lib.toList_data, Lib.toList_data]; exact h2⟩)
/-- The texts of two days. -/
theorem days_comp (a b : Int) : ∃ (s t : ByteArray) (e f : Int), Comp s t e f (decide (a < b)) (decide (a = b)) ∧
    (∀ w : World, Good w → Calls Tryd.prog 27 #[.int .i64 a] w fun r w' => r = .returned (.tuple #[.string s, .int .i64 e]) ∧ Below w.heap.size w w') ∧
    ∀ w : World, Good w → Calls Tryd.prog 27 #[.int .i64 b] w fun r w' => r = .returned (.tuple #[.string t, .int .i64 f]) ∧ Below w.heap.size w w' := by
  by_cases ha : 0 ≤ a ∧ a ≤ 36524
  · obtain ⟨m, rfl⟩ : ∃ k : Nat, a = k := ⟨a.toNat, by omega⟩
    obtain ⟨i, hi, hm⟩ := month_day m (by omega)
    by_cases hb : 0 ≤ b ∧ b ≤ 36524
    · obtain ⟨n, rfl⟩ : ∃ k : Nat, b = k := ⟨b.toNat, by omega⟩
      obtain ⟨j, hj, hn⟩ := month_day n (by omega)
      refine ⟨_, _, _, _, comp_ok _ _ _ _ ?_ ?_, dformat_yes i m hi hm, dformat_yes j n hj hn⟩
      · rw [day_less i j m n hi hj hm hn]
        congr 1
        exact propext ⟨fun h => by omega, fun h => by omega⟩
      · rw [day_same i j m n hi hj hm hn]
        congr 1
        exact propext ⟨fun h => by omega, fun h => by omega⟩
    · exact ⟨_, _, _, _, comp_err2 _ _ _ _, dformat_yes i m hi hm, fun w _ => still (dformat_no b (by omega) w)⟩
  · obtain ⟨l, f, h, -⟩ := format_is b
    exact ⟨_, _, _, _, comp_err1 _ _ _ _ _, fun w _ => still (dformat_no a (by omega) w), h⟩
/-- The texts of two moments. -/
theorem moms_comp (a b : Int) (ha9 : a ≤ 9223372036854775807) (hb9 : b ≤ 9223372036854775807) : ∃ (s t : ByteArray) (e f : Int), Comp s t e f (decide (a < b)) (decide (a = b)) ∧
    (∀ w : World, Good w → Calls Tryd.prog 35 #[.int .i64 a] w fun r w' => r = .returned (.tuple #[.string s, .int .i64 e]) ∧ Below w.heap.size w w') ∧
    ∀ w : World, Good w → Calls Tryd.prog 35 #[.int .i64 b] w fun r w' => r = .returned (.tuple #[.string t, .int .i64 f]) ∧ Below w.heap.size w w' := by
  by_cases ha : 0 ≤ a ∧ a / 86400 ≤ 36524
  · obtain ⟨m, hm0⟩ : ∃ k : Nat, a / 86400 = k := ⟨(a / 86400).toNat, by omega⟩
    obtain ⟨i, hi, hm⟩ := month_day m (by omega)
    by_cases hb : 0 ≤ b ∧ b / 86400 ≤ 36524
    · obtain ⟨n, hn0⟩ : ∃ k : Nat, b / 86400 = k := ⟨(b / 86400).toNat, by omega⟩
      obtain ⟨j, hj, hn⟩ := month_day n (by omega)
      refine ⟨_, _, _, _, comp_ok _ _ _ _ ?_ ?_, fmtMom_yes a i m ha.1 hm0 hi hm, fmtMom_yes b j n hb.1 hn0 hj hn⟩
      · rw [mom_less i j m n _ _ hi hj hm hn (by omega) (by omega) (by omega) (by omega), show (m : Int) * 86400 + a % 86400 = a by omega, show (n : Int) * 86400 + b % 86400 = b by omega]
      · rw [mom_same i j m n _ _ hi hj hm hn (by omega) (by omega) (by omega) (by omega), show (m : Int) * 86400 + a % 86400 = a by omega, show (n : Int) * 86400 + b % 86400 = b by omega]
    · exact ⟨_, _, _, _, comp_err2 _ _ _ _, fmtMom_yes a i m ha.1 hm0 hi hm, fun w _ => still (fmtMom_no b hb9 (by omega) w)⟩
  · obtain ⟨l, f, h, -⟩ := fmtMom_is b hb9
    exact ⟨_, _, _, _, comp_err1 _ _ _ _ _, fun w _ => still (fmtMom_no a ha9 (by omega) w), h⟩
theorem orders_law (a b : Int) (ha : a ≤ 9223372036854775807) (hb : b ≤ 9223372036854775807) (w : World) (hg : Good w) :
    Calls Tryd.prog 13 #[.int .i64 a, .int .i64 b] w fun r w' => r = .returned (.bool true) ∧ Below w.heap.size w w' := by
  obtain ⟨s, t, e, f, h1, c1, c2⟩ := days_comp a b
  obtain ⟨s2, t2, e2, f2, h2, c3, c4⟩ := moms_comp a b ha hb
  exact orders_core a b s t s2 t2 e f e2 f2 _ _ rfl (by rw [Bool.eq_iff_iff, beq_iff_eq, decide_eq_true_eq]) h1 h2 c1 c2 c3 c4 w hg
end Go.Proofs.YtalghfmdaifcgaaDoor
