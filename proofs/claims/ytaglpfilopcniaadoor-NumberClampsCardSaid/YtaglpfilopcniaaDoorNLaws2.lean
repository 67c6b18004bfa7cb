/-
  The statements that a sum is undone and a remainder is small, and that a text which is accepted is the form of its result: each call returns true; nothing that existed before the call has changed behind it. Condition: integers of 64 bits; the library's variable ErrRange holds an error.
-/
import Derived.Test.YtaglpfilopcniaaDoorNLaws
namespace Go.Proofs.YtaglpfilopcniaaDoor
open Go.RowKit

theorem rest_bounds {a b q r : Int} (t : Two a b) (h : Rest b r) (e : a - q * b = r) : wrap64 (a - wrap64 (q * b)) = r := by
  obtain ⟨a0, a1, b0, b1⟩ := t
  unfold Rest at h
  unfold wrap64
  omega

theorem undo_yes_none (a b m : Int) (A : Hid (∀ w : World, Calls Tryd.prog 17 #[.int .i64 a, .int .i64 b] w fun e w' => e = .returned (.tuple #[.int .i64 m, .bool true]) ∧ Below w.heap.size w w')) (S : Hid (∀ w : World, Calls Tryd.prog 19 #[.int .i64 m, .int .i64 b] w fun e w' => e = .returned (.tuple #[.int .i64 a, .bool true]) ∧ Below w.heap.size w w')) (hb : b = 0 ∨ b = -1) (D : Hid (∀ w : World, Calls Tryd.prog 23 #[.int .i64 a, .int .i64 b] w fun e w' => e = .returned (.tuple #[.int .i64 0, .bool false]) ∧ Below w.heap.size w w')) : ∀ w : World, Good w → Calls Tryd.prog 8 #[.int .i64 a, .int .i64 b] w fun e w' => e = .returned (.bool true) ∧ Below w.heap.size w w' := by
  intro w hg
  rcases hb with hb | hb
  · subst hb
    go_enter Tryd.func8, Tryd.ntmps8
    go_wp2_with fail
    refine (A.out _).mono ?_
    rintro e w1 ⟨rfl, b1⟩
    go_wp2_with fail
    refine (rel (W := w) (S.out _) b1).mono ?_
    rintro e w2 ⟨rfl, b2⟩
    clear b1
    go_wp2_with fail
    refine (rel (W := w) (D.out _) b2).mono ?_
    rintro e w3 ⟨rfl, b3⟩
    clear b2
    go_wp2_with fail
    refine (rel (W := w) (example_holds _ (hg.below b3)) b3).mono ?_
    rintro e w4 ⟨rfl, b4⟩
    clear b3
    go_wp2_with fail
    go_ret
    exact ⟨rfl, b4⟩
  · subst hb
    go_enter Tryd.func8, Tryd.ntmps8
    go_wp2_with fail
    refine (A.out _).mono ?_
    rintro e w1 ⟨rfl, b1⟩
    go_wp2_with fail
    refine (rel (W := w) (S.out _) b1).mono ?_
    rintro e w2 ⟨rfl, b2⟩
    clear b1
    go_wp2_with fail
    refine (rel (W := w) (D.out _) b2).mono ?_
    rintro e w3 ⟨rfl, b3⟩
    clear b2
    go_wp2_with fail
    refine (rel (W := w) (example_holds _ (hg.below b3)) b3).mono ?_
    rintro e w4 ⟨rfl, b4⟩
    clear b3
    go_wp2_with fail
    go_ret
    exact ⟨rfl, b4⟩
theorem undo_yes_some (a b q r m : Int) (A : Hid (∀ w : World, Calls Tryd.prog 17 #[.int .i64 a, .int .i64 b] w fun e w' => e = .returned (.tuple #[.int .i64 m, .bool true]) ∧ Below w.heap.size w w')) (S : Hid (∀ w : World, Calls Tryd.prog 19 #[.int .i64 m, .int .i64 b] w fun e w' => e = .returned (.tuple #[.int .i64 a, .bool true]) ∧ Below w.heap.size w w')) (D : Hid (∀ w : World, Calls Tryd.prog 23 #[.int .i64 a, .int .i64 b] w fun e w' => e = .returned (.tuple #[.int .i64 q, .bool true]) ∧ Below w.heap.size w w')) (E : wrap64 (a - wrap64 (q * b)) = r) (hr : Rest b r) : ∀ w : World, Good w → Calls Tryd.prog 8 #[.int .i64 a, .int .i64 b] w fun e w' => e = .returned (.bool true) ∧ Below w.heap.size w w' := by
  intro w hg
  unfold Rest at hr
  rcases hr with hr | ⟨h1, h2, h3⟩ | ⟨h1, h2, h3⟩
  · subst hr
    go_enter Tryd.func8, Tryd.ntmps8
    go_wp2_with fail
    refine (A.out _).mono ?_
    rintro e w1 ⟨rfl, b1⟩
    go_wp2_with fail
    refine (rel (W := w) (S.out _) b1).mono ?_
    rintro e w2 ⟨rfl, b2⟩
    clear b1
    go_wp2_with fail
    refine (rel (W := w) (D.out _) b2).mono ?_
    rintro e w3 ⟨rfl, b3⟩
    clear b2
    go_wp2_with fail
    refine (rel (W := w) (example_holds _ (hg.below b3)) b3).mono ?_
    rintro e w4 ⟨rfl, b4⟩
    clear b3
    go_wp2_with fail
    go_ret
    exact ⟨rfl, b4⟩
  · have z : (r == 0) = false := beq_false (by omega)
    go_enter Tryd.func8, Tryd.ntmps8
    go_wp2_with fail
    refine (A.out _).mono ?_
    rintro e w1 ⟨rfl, b1⟩
    go_wp2_with fail
    refine (rel (W := w) (S.out _) b1).mono ?_
    rintro e w2 ⟨rfl, b2⟩
    clear b1
    go_wp2_with fail
    refine (rel (W := w) (D.out _) b2).mono ?_
    rintro e w3 ⟨rfl, b3⟩
    clear b2
    go_wp2_with fail
    refine (rel (W := w) (example_holds _ (hg.below b3)) b3).mono ?_
    rintro e w4 ⟨rfl, b4⟩
    clear b3
    go_wp2_with fail
    go_ret
    exact ⟨rfl, b4⟩
  · have z : (r == 0) = false := beq_false (by omega)
    have d1 : decide (0 < b) = false := lt_false (by omega)
    go_enter Tryd.func8, Tryd.ntmps8
    go_wp2_with fail
    refine (A.out _).mono ?_
    rintro e w1 ⟨rfl, b1⟩
    go_wp2_with fail
    refine (rel (W := w) (S.out _) b1).mono ?_
    rintro e w2 ⟨rfl, b2⟩
    clear b1
    go_wp2_with fail
    refine (rel (W := w) (D.out _) b2).mono ?_
    rintro e w3 ⟨rfl, b3⟩
    clear b2
    go_wp2_with fail
    refine (rel (W := w) (example_holds _ (hg.below b3)) b3).mono ?_
    rintro e w4 ⟨rfl, b4⟩
    clear b3
    go_wp2_with fail
    go_ret
    exact ⟨rfl, b4⟩
theorem undo_no_none (a b : Int) (A : Hid (∀ w : World, Calls Tryd.prog 17 #[.int .i64 a, .int .i64 b] w fun e w' => e = .returned (.tuple #[.int .i64 0, .bool false]) ∧ Below w.heap.size w w'))  (hb : b = 0 ∨ b = -1) (D : Hid (∀ w : World, Calls Tryd.prog 23 #[.int .i64 a, .int .i64 b] w fun e w' => e = .returned (.tuple #[.int .i64 0, .bool false]) ∧ Below w.heap.size w w')) : ∀ w : World, Good w → Calls Tryd.prog 8 #[.int .i64 a, .int .i64 b] w fun e w' => e = .returned (.bool true) ∧ Below w.heap.size w w' := by
  intro w hg
  rcases hb with hb | hb
  · subst hb
    go_enter Tryd.func8, Tryd.ntmps8
    go_wp2_with fail
    refine (A.out _).mono ?_
    rintro e w1 ⟨rfl, b1⟩
    go_wp2_with fail
    refine (rel (W := w) (D.out _) b1).mono ?_
    rintro e w2 ⟨rfl, b2⟩
    clear b1
    go_wp2_with fail
    refine (rel (W := w) (example_holds _ (hg.below b2)) b2).mono ?_
    rintro e w3 ⟨rfl, b3⟩
    clear b2
    go_wp2_with fail
    go_ret
    exact ⟨rfl, b3⟩
  · subst hb
    go_enter Tryd.func8, Tryd.ntmps8
    go_wp2_with fail
    refine (A.out _).mono ?_
    rintro e w1 ⟨rfl, b1⟩
    go_wp2_with fail
    refine (rel (W := w) (D.out _) b1).mono ?_
    rintro e w2 ⟨rfl, b2⟩
    clear b1
    go_wp2_with fail
    refine (rel (W := w) (example_holds _ (hg.below b2)) b2).mono ?_
    rintro e w3 ⟨rfl, b3⟩
    clear b2
    go_wp2_with fail
    go_ret
    exact ⟨rfl, b3⟩
theorem undo_no_some (a b q r : Int) (A : Hid (∀ w : World, Calls Tryd.prog 17 #[.int .i64 a, .int .i64 b] w fun e w' => e = .returned (.tuple #[.int .i64 0, .bool false]) ∧ Below w.heap.size w w'))  (D : Hid (∀ w : World, Calls Tryd.prog 23 #[.int .i64 a, .int .i64 b] w fun e w' => e = .returned (.tuple #[.int .i64 q, .bool true]) ∧ Below w.heap.size w w')) (E : wrap64 (a - wrap64 (q * b)) = r) (hr : Rest b r) : ∀ w : World, Good w → Calls Tryd.prog 8 #[.int .i64 a, .int .i64 b] w fun e w' => e = .returned (.bool true) ∧ Below w.heap.size w w' := by
  intro w hg
  unfold Rest at hr
  rcases hr with hr | ⟨h1, h2, h3⟩ | ⟨h1, h2, h3⟩
  · subst hr
    go_enter Tryd.func8, Tryd.ntmps8
    go_wp2_with fail
    refine (A.out _).mono ?_
    rintro e w1 ⟨rfl, b1⟩
    go_wp2_with fail
    refine (rel (W := w) (D.out _) b1).mono ?_
    rintro e w2 ⟨rfl, b2⟩
    clear b1
    go_wp2_with fail
    refine (rel (W := w) (example_holds _ (hg.below b2)) b2).mono ?_
    rintro e w3 ⟨rfl, b3⟩
    clear b2
    go_wp2_with fail
    go_ret
    exact ⟨rfl, b3⟩
  · have z : (r == 0) = false := beq_false (by omega)
    go_enter Tryd.func8, Tryd.ntmps8
    go_wp2_with fail
    refine (A.out _).mono ?_
    rintro e w1 ⟨rfl, b1⟩
    go_wp2_with fail
    refine (rel (W := w) (D.out _) b1).mono ?_
    rintro e w2 ⟨rfl, b2⟩
    clear b1
    go_wp2_with fail
    refine (rel (W := w) (example_holds _ (hg.below b2)) b2).mono ?_
    rintro e w3 ⟨rfl, b3⟩
    clear b2
    go_wp2_with fail
    go_ret
    exact ⟨rfl, b3⟩
  · have z : (r == 0) = false := beq_false (by omega)
    have d1 : decide (0 < b) = false := lt_false (by omega)
    go_enter Tryd.func8, Tryd.ntmps8
    go_wp2_with fail
    refine (A.out _).mono ?_
    rintro e w1 ⟨rfl, b1⟩
    go_wp2_with fail
    refine (rel (W := w) (D.out _) b1).mono ?_
    rintro e w2 ⟨rfl, b2⟩
    clear b1
    go_wp2_with fail
    refine (rel (W := w) (example_holds _ (hg.below b2)) b2).mono ?_
    rintro e w3 ⟨rfl, b3⟩
    clear b2
    go_wp2_with fail
    go_ret
    exact ⟨rfl, b3⟩
theorem undoes_law (a b : Int) (a0 : -9223372036854775808 ≤ a) (a1 : a ≤ 9223372036854775807) (b0 : -9223372036854775808 ≤ b) (b1 : b ≤ 9223372036854775807) : ∀ w : World, Good w → Calls Tryd.prog 8 #[.int .i64 a, .int .i64 b] w fun e w' => e = .returned (.bool true) ∧ Below w.heap.size w w' := by
  have t : Two a b := ⟨a0, a1, b0, b1⟩
  obtain ⟨q, ok, D, _, hd⟩ := div_is a b t
  by_cases h : -9223372036854775808 ≤ a + b ∧ a + b ≤ 9223372036854775807
  · have A := Lib.hid (fun w => add_yes a b t h.1 h.2 w)
    have S := Lib.hid (fun w => sub_yes (a + b) b ⟨h.1, h.2, b0, b1⟩ (by omega) (by omega) w)
    rw [show a + b - b = a by omega] at S
    rcases hd with ⟨rfl, rfl, hb⟩ | ⟨rfl, hb, rfl⟩
    · exact undo_yes_none a b _ A S hb (Lib.hid D)
    · exact undo_yes_some a b (flo a b) _ _ A S (Lib.hid D) (rest_bounds t (rest_flo a b hb) rfl) (rest_flo a b hb)
  · have A := Lib.hid (fun w => add_no a b t (by omega) w)
    rcases hd with ⟨rfl, rfl, hb⟩ | ⟨rfl, hb, rfl⟩
    · exact undo_no_none a b A hb (Lib.hid D)
    · exact undo_no_some a b (flo a b) _ A (Lib.hid D) (rest_bounds t (rest_flo a b hb) rfl) (rest_flo a b hb)

/-! ### What is accepted is the form of the result -/
theorem numR_cases (l : List UInt8) : (∃ n, numR l = (n, 0) ∧ Lib.itoa n = l ∧ -9223372036854775808 ≤ n ∧ n ≤ 9223372036854775807) ∨ (∃ c, numR l = (0, c) ∧ (c == 0) = false) := by
  cases hf : formed l with
  | false => exact Or.inr ⟨3, numR_syntax hf, rfl⟩
  | true =>
    cases k : fits (sgn l) with
    | true => exact Or.inl ⟨sgn l, numR_ok hf k, itoa_back l hf, ((fits_iff _).1 k).1, ((fits_iff _).1 k).2⟩
    | false => exact Or.inr ⟨2, numR_range hf k, rfl⟩
theorem priceR_cases (l : List UInt8) : (∃ c : Nat, priceR l = ((c : Int), 0) ∧ priceText c = l ∧ c ≤ 1000000) ∨ (∃ c, priceR l = (0, c) ∧ (c != 0) = true) := by
  unfold priceR
  cases hp : priced l with
  | false => exact Or.inr ⟨3, by simp, rfl⟩
  | true =>
    by_cases hw : worth l ≤ 1000000
    · exact Or.inl ⟨worth l, by simp [hw], price_back l hp, hw⟩
    · exact Or.inr ⟨2, by simp [hw], rfl⟩
/-- The walk, by what the callees answer. -/
theorem round_core (s : ByteArray) (hs : (s.size : Int) ≤ 200) (n v p q : Int) (P : Hid (∀ w : World, Good w → Calls Tryd.prog 11 #[.string s] w fun e w' => e = .returned (.tuple #[.int .i64 n, .int .i64 v]) ∧ Below w.heap.size w w')) (z : Bool) (hz : (v == 0) = z) (F : z = true → Hid (∀ w : World, Calls Tryd.prog 10 #[.int .i64 n] w fun e w' => e = .returned (.string s) ∧ Below w.heap.size w w')) (R : Hid (∀ w : World, Good w → Calls Tryd.prog 29 #[.string s] w fun e w' => e = .returned (.tuple #[.int .i64 p, .int .i64 q]) ∧ Below w.heap.size w w')) (y : Bool) (hy : (q != 0) = y) (hp : y = true → p = 0) (G : y = false → Hid (∀ w : World, Calls Tryd.prog 27 #[.int .i64 p] w fun e w' => e = .returned (.tuple #[.string s, .int .i64 0]) ∧ Below w.heap.size w w')) : ∀ w : World, Good w → Calls Tryd.prog 9 #[.string s] w fun e w' => e = .returned (.bool true) ∧ Below w.heap.size w w' := by
  intro w hg
  have d : decide ((200 : Int) < (s.size : Int)) = false := lt_false hs
  cases z
  · clear F
    cases y
    · have g := G rfl
      clear G hp
      go_enter Tryd.func9, Tryd.ntmps9
      go_wp2_with fail
      refine (P.out _ hg).mono ?_
      rintro e w1 ⟨rfl, b1⟩
      go_wp2_with fail
      refine (rel (W := w) (R.out _ (hg.below b1)) b1).mono ?_
      rintro e w2 ⟨rfl, b2⟩
      clear b1
      go_wp2_with fail
      refine (rel (W := w) (g.out _) b2).mono ?_
      rintro e w3 ⟨rfl, b3⟩
      clear b2
      go_wp2_with fail
      refine (rel (W := w) (example_holds _ (hg.below b3)) b3).mono ?_
      rintro e w4 ⟨rfl, b4⟩
      clear b3
      go_wp2_with fail
      go_ret
      exact ⟨rfl, b4⟩
    · obtain rfl := hp rfl
      clear G hp
      go_enter Tryd.func9, Tryd.ntmps9
      go_wp2_with fail
      refine (P.out _ hg).mono ?_
      rintro e w1 ⟨rfl, b1⟩
      go_wp2_with fail
      refine (rel (W := w) (R.out _ (hg.below b1)) b1).mono ?_
      rintro e w2 ⟨rfl, b2⟩
      clear b1
      go_wp2_with fail
      refine (rel (W := w) (example_holds _ (hg.below b2)) b2).mono ?_
      rintro e w3 ⟨rfl, b3⟩
      clear b2
      go_wp2_with fail
      go_ret
      exact ⟨rfl, b3⟩
  · have f := F rfl
    clear F
    cases y
    · have g := G rfl
      clear G hp
      go_enter Tryd.func9, Tryd.ntmps9
      go_wp2_with fail
      refine (P.out _ hg).mono ?_
      rintro e w1 ⟨rfl, b1⟩
      go_wp2_with fail
      refine (rel (W := w) (f.out _) b1).mono ?_
      rintro e w2 ⟨rfl, b2⟩
      clear b1
      go_wp2_with fail
      refine (rel (W := w) (R.out _ (hg.below b2)) b2).mono ?_
      rintro e w3 ⟨rfl, b3⟩
      clear b2
      go_wp2_with fail
      refine (rel (W := w) (g.out _) b3).mono ?_
      rintro e w4 ⟨rfl, b4⟩
      clear b3
      go_wp2_with fail
      refine (rel (W := w) (example_holds _ (hg.below b4)) b4).mono ?_
      rintro e w5 ⟨rfl, b5⟩
      clear b4
      go_wp2_with fail
      go_ret
      exact ⟨rfl, b5⟩
    · obtain rfl := hp rfl
      clear G hp
      go_enter Tryd.func9, Tryd.ntmps9
      go_wp2_with fail
      refine (P.out _ hg).mono ?_
      rintro e w1 ⟨rfl, b1⟩
      go_wp2_with fail
      refine (rel (W := w) (f.out _) b1).mono ?_
      rintro e w2 ⟨rfl, b2⟩
      clear b1
      go_wp2_with fail
      refine (rel (W := w) (R.out _ (hg.below b2)) b2).mono ?_
      rintro e w3 ⟨rfl, b3⟩
      clear b2
      go_wp2_with fail
      refine (rel (W := w) (example_holds _ (hg.below b3)) b3).mono ?_
      rintro e w4 ⟨rfl, b4⟩
      clear b3
      go_wp2_with fail
      go_ret
      exact ⟨rfl, b4⟩
theorem round_law (s : ByteArray) : ∀ w : World, Good w → Calls Tryd.prog 9 #[.string s] w fun e w' => e = .returned (.bool true) ∧ Below w.heap.size w w' := by
  by_cases hs : (200 : Int) < (s.size : Int)
  · intro w hg
    go_enter Tryd.func9, Tryd.ntmps9
    go_wp2_with fail
    refine (example_holds _ hg).mono ?_
    rintro e w1 ⟨rfl, b1⟩
    go_wp2_with fail
    go_ret
    exact ⟨rfl, b1⟩
  · obtain ⟨l, hl⟩ : ∃ l, s = str l := ⟨s.data.toList, rfl⟩
    have hz : l.length ≤ 4000 := by have := size_str l; rw [← hl] at this; omega
    have P := Lib.hid (fun w hg => parse_any l (by omega) w hg)
    have R := Lib.hid (fun w hg => pprice_any l hz w hg)
    rw [← hl] at P R
    rcases numR_cases l with ⟨n, hn, hi, n0, n1⟩ | ⟨c, hn, hc⟩ <;> rcases priceR_cases l with ⟨k, hk, ht, k1⟩ | ⟨c', hk, hc'⟩ <;> rw [hn] at P <;> rw [hk] at R
    · refine round_core s (by omega) n 0 k 0 P true rfl (fun _ => Lib.hid ?_) R false rfl (fun h => by cases h) (fun _ => Lib.hid ?_)
      · rw [hl, ← hi]; exact fun w => format_any n n0 n1 w
      · rw [hl, ← ht]; exact fun w => fprice_yes k k rfl (by omega) w
    · refine round_core s (by omega) n 0 0 c' P true rfl (fun _ => Lib.hid ?_) R true hc' (fun _ => rfl) (fun h => by cases h)
      rw [hl, ← hi]; exact fun w => format_any n n0 n1 w
    · refine round_core s (by omega) 0 c k 0 P false hc (fun h => by cases h) R false rfl (fun h => by cases h) (fun _ => Lib.hid ?_)
      rw [hl, ← ht]; exact fun w => fprice_yes k k rfl (by omega) w
    · exact round_core s (by omega) 0 c 0 c' P false hc (fun h => by cases h) R true hc' (fun _ => rfl) (fun h => by cases h)
end Go.Proofs.YtaglpfilopcniaaDoor
