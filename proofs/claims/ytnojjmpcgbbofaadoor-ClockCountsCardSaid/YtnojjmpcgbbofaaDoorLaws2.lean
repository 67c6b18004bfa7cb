/-
  The further laws about clocks: each answers true for all integers and texts; nothing that existed before the call has changed behind it. Condition: none.
-/
import Derived.Test.YtnojjmpcgbbofaaDoorLaws
namespace Go.Proofs.YtnojjmpcgbbofaaDoor
open Go.RowKit

theorem counts_out (t : Int) (h : t < 0 ∨ 172800 ≤ t) (w : World) :
    Calls Tryd.prog 8 #[.int .i64 t] w fun e w' => e = .returned (.bool true) ∧ Below w.heap.size w w' := by
  rcases h with h | h
  · go_enter Tryd.func8, Tryd.ntmps8
    go_wp2_with (go_at_call 15; refine (example_holds _).mono ?_; rintro e w1 ⟨rfl, b1⟩)
    go_ret
    exact ⟨rfl, b1⟩
  · have h0 : ¬ t < 0 := by omega
    go_enter Tryd.func8, Tryd.ntmps8
    go_wp2_with (go_at_call 15; refine (example_holds _).mono ?_; rintro e w1 ⟨rfl, b1⟩)
    go_ret
    exact ⟨rfl, b1⟩
theorem counts_in (t : Int) (h0 : 0 ≤ t) (h1 : t < 172800) (w : World) :
    Calls Tryd.prog 8 #[.int .i64 t] w fun e w' => e = .returned (.bool true) ∧ Below w.heap.size w w' := by
  have g0 : ¬ t < 0 := by omega
  have g1 : ¬ 172800 ≤ t := by omega
  have q0 : 0 ≤ t + 1 := by omega
  have q1 : t + 1 ≤ 172800 := by omega
  by_cases hs : t % 60 < 59
  · have e1 : ((t + 1) / 3600 == t / 3600) = true := beq_true (by omega)
    have e2 : ((t + 1) % 3600 / 60 == t % 3600 / 60) = true := beq_true (by omega)
    have e3 : ((t + 1) % 60 == t % 60 + 1) = true := beq_true (by omega)
    go_enter Tryd.func8, Tryd.ntmps8
    go_wp2_with (first | (go_at_call 12; refine (split_yes _ (by omega) (by omega) _).mono ?_; rintro e w' ⟨rfl, rfl⟩) | (go_at_call 15; refine (example_holds _).mono ?_; rintro e w1 ⟨rfl, b1⟩))
    go_ret
    exact ⟨rfl, b1⟩
  · by_cases hm : t % 3600 / 60 < 59
    · have e0 : (t % 60 == 59) = true := beq_true (by omega)
      have e1 : ((t + 1) / 3600 == t / 3600) = true := beq_true (by omega)
      have e2 : ((t + 1) % 3600 / 60 == t % 3600 / 60 + 1) = true := beq_true (by omega)
      have e3 : ((t + 1) % 60 == 0) = true := beq_true (by omega)
      go_enter Tryd.func8, Tryd.ntmps8
      go_wp2_with (first | (go_at_call 12; refine (split_yes _ (by omega) (by omega) _).mono ?_; rintro e w' ⟨rfl, rfl⟩) | (go_at_call 15; refine (example_holds _).mono ?_; rintro e w1 ⟨rfl, b1⟩))
      go_ret
      exact ⟨rfl, b1⟩
    · have e0 : (t % 60 == 59) = true := beq_true (by omega)
      have e4 : (t % 3600 / 60 == 59) = true := beq_true (by omega)
      have e1 : ((t + 1) / 3600 == t / 3600 + 1) = true := beq_true (by omega)
      have e2 : ((t + 1) % 3600 / 60 == 0) = true := beq_true (by omega)
      have e3 : ((t + 1) % 60 == 0) = true := beq_true (by omega)
      go_enter Tryd.func8, Tryd.ntmps8
      go_wp2_with (first | (go_at_call 12; refine (split_yes _ (by omega) (by omega) _).mono ?_; rintro e w' ⟨rfl, rfl⟩) | (go_at_call 15; refine (example_holds _).mono ?_; rintro e w1 ⟨rfl, b1⟩))
      go_ret
      exact ⟨rfl, b1⟩
theorem counts_law (t : Int) (w : World) :
    Calls Tryd.prog 8 #[.int .i64 t] w fun e w' => e = .returned (.bool true) ∧ Below w.heap.size w w' := by
  by_cases h : 0 ≤ t ∧ t < 172800
  · exact counts_in t h.1 h.2 w
  · exact counts_out t (by omega) w

theorem parses_long (s : ByteArray) (h : 4096 < s.size) (w : World) :
    Calls Tryd.prog 6 #[.string s] w fun e w' => e = .returned (.bool true) ∧ Below w.heap.size w w' := by
  have i : (4096 : Int) < (s.size : Int) := by omega
  go_enter Tryd.func6, Tryd.ntmps6
  go_wp2_with (go_at_call 15; refine (example_holds _).mono ?_; rintro e w1 ⟨rfl, b1⟩)
  go_ret
  exact ⟨rfl, b1⟩
theorem parses_short (s : ByteArray) (h : ¬ 4096 < s.size) (w : World) :
    Calls Tryd.prog 6 #[.string s] w fun e w' => e = .returned (.bool true) ∧ Below w.heap.size w w' := by
  have i : ¬ (4096 : Int) < (s.size : Int) := by omega
  have c1 := parse_any s
  have c2 := rparse_any s
  generalize (timeR s.data.toList).1 = a at c1 c2
  generalize (timeR s.data.toList).2 = b at c1 c2
  have C1 := Lib.hid c1
  have C2 := Lib.hid c2
  clear c1 c2
  go_enter Tryd.func6, Tryd.ntmps6
  go_wp2_with fail
  refine (C1.out _).mono ?_
  rintro e w1 ⟨rfl, b1⟩
  go_wp2_with fail
  refine (rel (W := w) (C2.out _) (by assumption)).mono ?_
  rintro e w2 ⟨rfl, b2⟩
  go_wp2_with fail
  refine (rel (W := w) (example_holds _) (by assumption)).mono ?_
  rintro e w3 ⟨rfl, b3⟩
  go_wp2_with fail
  go_ret
  exact ⟨rfl, b3⟩
theorem parses_law (s : ByteArray) (w : World) :
    Calls Tryd.prog 6 #[.string s] w fun e w' => e = .returned (.bool true) ∧ Below w.heap.size w w' := by
  by_cases h : 4096 < s.size
  · exact parses_long s h w
  · exact parses_short s h w
end Go.Proofs.YtnojjmpcgbbofaaDoor
