/-
  The laws on Valid, Compare, Unique and on a nil table: each call answers true; nothing that existed before the call has changed behind it. Condition: none.
-/
import Derived.Test.YtfmajfmimgcfnaaIExa
namespace Go.Proofs.Ytfmajfmimgcfnaa
open Go.RowKit

theorem small_bounds {l : List (List UInt8)} (h : smallL l = true) : l.length ≤ 1000 ∧ ∀ (j : Nat) x, l[j]? = some x → x.length ≤ 1048576 := by
  rw [small_iff] at h
  refine ⟨by omega, fun j x hx => ?_⟩
  have := h.2 x (List.mem_iff_getElem?.2 ⟨j, hx⟩)
  omega
set_option maxHeartbeats 1000000 in
theorem valids_law (s : ByteArray) (w : World) : Calls Try.prog 3 #[.string s] w fun e w' => e = .returned (.bool true) ∧ Below w.heap.size w w' := by
  by_cases h : 4096 < s.size
  · have g : (4096 : Int) < (s.size : Int) := by omega
    clear h
    go_enter Try.func3, Try.ntmps3
    go_wp2_with fail
    refine (example_holds _).mono ?_
    rintro e w1 ⟨rfl, b1⟩
    go_wp2_with fail
    go_ret
    exact ⟨rfl, b1⟩
  · have g : decide ((4096 : Int) < (s.size : Int)) = false := by simp; omega
    have V1 := Lib.hid (fun W => valid_any s (by omega) W)
    have V2 := Lib.hid (fun W => rvalid_any s (by omega) W)
    clear h
    generalize validB s.data.toList = b at V1 V2
    have gb : (b == b) = true := by simp
    go_enter Try.func3, Try.ntmps3
    go_wp2_with fail
    refine (V1.out _).mono ?_
    rintro e w' ⟨rfl, rfl⟩
    go_wp2_with fail
    refine (V2.out _).mono ?_
    rintro e w' ⟨rfl, rfl⟩
    go_wp2_with fail
    refine (example_holds _).mono ?_
    rintro e w1 ⟨rfl, b1⟩
    go_wp2_with fail
    go_ret
    exact ⟨rfl, b1⟩
set_option maxHeartbeats 1000000 in
theorem compares_law (a b : ByteArray) (w : World) : Calls Try.prog 4 #[.string a, .string b] w fun e w' => e = .returned (.bool true) ∧ Below w.heap.size w w' := by
  by_cases h : 4096 < a.size
  · have g : (4096 : Int) < (a.size : Int) := by omega
    clear h
    go_enter Try.func4, Try.ntmps4
    go_wp2_with fail
    refine (example_holds _).mono ?_
    rintro e w1 ⟨rfl, b1⟩
    go_wp2_with fail
    go_ret
    exact ⟨rfl, b1⟩
  have g : decide ((4096 : Int) < (a.size : Int)) = false := by simp; omega
  by_cases k : 4096 < b.size
  · have g2 : (4096 : Int) < (b.size : Int) := by omega
    clear h k
    go_enter Try.func4, Try.ntmps4
    go_wp2_with fail
    refine (example_holds _).mono ?_
    rintro e w1 ⟨rfl, b1⟩
    go_wp2_with fail
    go_ret
    exact ⟨rfl, b1⟩
  · have g2 : decide ((4096 : Int) < (b.size : Int)) = false := by simp; omega
    have C1 := Lib.hid (fun W => compare_any a b W)
    have C2 := Lib.hid (fun W => rcompare_any a b (by omega) W)
    clear h k
    generalize cmpL a.data.toList b.data.toList = r at C1 C2
    have gr : (r == r) = true := beq_true rfl
    go_enter Try.func4, Try.ntmps4
    go_wp2_with fail
    refine (C1.out _).mono ?_
    rintro e w' ⟨rfl, rfl⟩
    go_wp2_with fail
    refine (Calls.below (C2.out _)).mono ?_
    rintro e w1 ⟨rfl, b1⟩
    go_wp2_with fail
    refine (rel (W := w) (example_holds _) b1).mono ?_
    rintro e w2 ⟨rfl, b2⟩
    clear b1
    go_wp2_with fail
    go_ret
    exact ⟨rfl, b2⟩
set_option maxHeartbeats 1000000 in
theorem uniques_law (v : Value) (l : List (List UInt8)) (hl : l.length ≤ 9223372036854775807) (w : World) (h : Lst w v l) : Calls Try.prog 5 #[v] w fun e w' => e = .returned (.bool true) ∧ Below w.heap.size w w' := by
  have S := Lib.hid (small_any v l hl w h)
  cases hs : smallL l with
  | false =>
    rw [hs] at S
    clear h hs
    go_enter Try.func5, Try.ntmps5
    go_wp2_with fail
    refine (S.out).mono ?_
    rintro e w' ⟨rfl, rfl⟩
    go_wp2_with fail
    refine (example_holds _).mono ?_
    rintro e w1 ⟨rfl, b1⟩
    go_wp2_with fail
    go_ret
    exact ⟨rfl, b1⟩
  | true =>
    rw [hs] at S
    obtain ⟨q1, q2⟩ := small_bounds hs
    have H := Lib.hid h
    have U1 := Lib.hid (unique_any v l q1 q2 w h)
    have U2 := Lib.hid (fun W (hW : Lst W v l) => runique_any v l q1 q2 W hW)
    clear h hs q1 q2
    generalize (uniqR l).1 = i at U1 U2
    generalize (uniqR l).2 = e at U1 U2
    have g1 : (i == i) = true := beq_true rfl
    have g2 : (e == e) = true := beq_true rfl
    go_enter Try.func5, Try.ntmps5
    go_wp2_with fail
    refine (S.out).mono ?_
    rintro e w' ⟨rfl, rfl⟩
    go_wp2_with fail
    refine (U1.out).mono ?_
    rintro e w1 ⟨rfl, b1⟩
    go_wp2_with fail
    refine (rel (W := w) (Calls.below (U2.out _ (H.out.below b1))) b1).mono ?_
    rintro e w2 ⟨rfl, b2⟩
    clear b1
    go_wp2_with fail
    refine (rel (W := w) (example_holds _) b2).mono ?_
    rintro e w3 ⟨rfl, b3⟩
    clear b2
    go_wp2_with fail
    go_ret
    exact ⟨rfl, b3⟩
set_option maxHeartbeats 4000000 in
theorem orders_law (a b c : ByteArray) (w : World) : Calls Try.prog 8 #[.string a, .string b, .string c] w fun e w' => e = .returned (.bool true) ∧ Below w.heap.size w w' := by
  by_cases h : 4096 < a.size
  · have g : (4096 : Int) < (a.size : Int) := by omega
    clear h
    go_enter Try.func8, Try.ntmps8
    go_wp2_with fail
    refine (example_holds _).mono ?_
    rintro e w1 ⟨rfl, b1⟩
    go_wp2_with fail
    go_ret
    exact ⟨rfl, b1⟩
  have g : decide ((4096 : Int) < (a.size : Int)) = false := by simp; omega
  by_cases k : 4096 < b.size
  · have g2 : (4096 : Int) < (b.size : Int) := by omega
    clear h k
    go_enter Try.func8, Try.ntmps8
    go_wp2_with fail
    refine (example_holds _).mono ?_
    rintro e w1 ⟨rfl, b1⟩
    go_wp2_with fail
    go_ret
    exact ⟨rfl, b1⟩
  have g2 : decide ((4096 : Int) < (b.size : Int)) = false := by simp; omega
  by_cases m : 4096 < c.size
  · have g3 : (4096 : Int) < (c.size : Int) := by omega
    clear h k m
    go_enter Try.func8, Try.ntmps8
    go_wp2_with fail
    refine (example_holds _).mono ?_
    rintro e w1 ⟨rfl, b1⟩
    go_wp2_with fail
    go_ret
    exact ⟨rfl, b1⟩
  have g3 : decide ((4096 : Int) < (c.size : Int)) = false := by simp; omega
  have C1 := Lib.hid (fun W => compare_any a b W)
  have C2 := Lib.hid (fun W => compare_any b c W)
  have C3 := Lib.hid (fun W => compare_any a c W)
  have C4 := Lib.hid (fun W => compare_any b a W)
  have E : (cmpL a.data.toList b.data.toList = -1 ∧ (a.toList == b.toList) = false) ∨ (cmpL a.data.toList b.data.toList = 0 ∧ (a.toList == b.toList) = true) ∨ (cmpL a.data.toList b.data.toList = 1 ∧ (a.toList == b.toList) = false) := by
    have hne : cmpL a.data.toList b.data.toList ≠ 0 → (a.toList == b.toList) = false := fun hn => bytes_ne (fun e => hn (by rw [e]; exact cmp_self _))
    have heq : cmpL a.data.toList b.data.toList = 0 → (a.toList == b.toList) = true := fun hz => bytes_eq (by rw [← str_list a, ← str_list b, cmp_eq _ _ hz])
    rcases cmp_three a.data.toList b.data.toList with hx | hx | hx
    · exact Or.inl ⟨hx, hne (by omega)⟩
    · exact Or.inr (Or.inl ⟨hx, heq hx⟩)
    · exact Or.inr (Or.inr ⟨hx, hne (by omega)⟩)
  have N := cmp_neg a.data.toList b.data.toList
  have T := cmp_trans a.data.toList b.data.toList c.data.toList
  have Y := cmp_three b.data.toList c.data.toList
  have Z := cmp_three a.data.toList c.data.toList
  rw [N] at C4
  clear h k m N
  generalize cmpL a.data.toList b.data.toList = x at C1 C4 E T
  generalize cmpL b.data.toList c.data.toList = y at C2 T Y
  generalize cmpL a.data.toList c.data.toList = z at C3 T Z
  rcases E with ⟨rfl, E⟩ | ⟨rfl, E⟩ | ⟨rfl, E⟩ <;> rcases Y with rfl | rfl | rfl <;> rcases Z with rfl | rfl | rfl <;> try (exfalso; revert T; decide)
  all_goals
    clear T
    go_enter Try.func8, Try.ntmps8
    go_wp2_with fail
    refine (C1.out _).mono ?_
    rintro e w' ⟨rfl, rfl⟩
    go_wp2_with fail
    refine (C2.out _).mono ?_
    rintro e w' ⟨rfl, rfl⟩
    go_wp2_with fail
    refine (C3.out _).mono ?_
    rintro e w' ⟨rfl, rfl⟩
    go_wp2_with fail
    refine (C4.out _).mono ?_
    rintro e w' ⟨rfl, rfl⟩
    go_wp2_with fail
    refine (example_holds _).mono ?_
    rintro e w1 ⟨rfl, b1⟩
    go_wp2_with fail
    go_ret
    exact ⟨rfl, b1⟩
set_option maxHeartbeats 1000000 in
theorem nils_law (s : ByteArray) (i : Int) (w : World) : Calls Try.prog 10 #[.string s, .int .i64 i] w fun e w' => e = .returned (.bool true) ∧ Below w.heap.size w w' := by
  go_enter Try.func10, Try.ntmps10
  go_wp2_with fail
  refine (find_nil _ _).mono ?_
  rintro e w' ⟨rfl, rfl⟩
  go_wp2_with fail
  refine (name_nil _ _).mono ?_
  rintro e w' ⟨rfl, rfl⟩
  go_wp2_with fail
  refine (len_nil _).mono ?_
  rintro e w' ⟨rfl, rfl⟩
  go_wp2_with fail
  refine (sorted_nil _).mono ?_
  rintro e w1 ⟨rfl, b1⟩
  go_wp2_with fail
  refine (rel (W := w) (prefix_nil _ _) b1).mono ?_
  rintro e w2 ⟨rfl, b2⟩
  clear b1
  go_wp2_with fail
  refine (rel (W := w) (example_holds _) b2).mono ?_
  rintro e w3 ⟨rfl, b3⟩
  clear b2
  go_wp2_with fail
  go_ret
  exact ⟨rfl, b3⟩
end Go.Proofs.Ytfmajfmimgcfnaa
