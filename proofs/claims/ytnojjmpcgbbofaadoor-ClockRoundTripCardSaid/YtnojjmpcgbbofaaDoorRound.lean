/-
  The law ClockRoundTrip answers true for every integer and every text; nothing that existed before the call has changed behind it. Condition: none.
-/
import Derived.Test.YtnojjmpcgbbofaaDoorLaws
namespace Go.Proofs.YtnojjmpcgbbofaaDoor
open Go.RowKit

/-- What Format answers. -/
def fmtR (t : Int) : List UInt8 × Int := if 0 ≤ t ∧ t ≤ 172800 then (timeText t, 0) else ([], 10)
/-- What FormatDuration answers. -/
def fdurR (n : Int) : List UInt8 × Int := if 0 ≤ n ∧ n ≤ 359999 then (durText n, 0) else ([], 2)
theorem fmt_any (t : Int) (w : World) :
    Calls Tryd.prog 18 #[.int .i64 t] w fun e w' => e = .returned (.tuple #[.string (str (fmtR t).1), .int .i64 (fmtR t).2]) ∧ Below w.heap.size w w' := by
  by_cases h : 0 ≤ t ∧ t ≤ 172800
  · rw [show fmtR t = (timeText t, 0) from if_pos h]; exact format_yes t h.1 h.2 w
  · rw [show fmtR t = ([], 10) from if_neg h]; exact still (format_no t (by omega) w)
theorem fdur_any (n : Int) (w : World) :
    Calls Tryd.prog 22 #[.int .i64 n] w fun e w' => e = .returned (.tuple #[.string (str (fdurR n).1), .int .i64 (fdurR n).2]) ∧ Below w.heap.size w w' := by
  by_cases h : 0 ≤ n ∧ n ≤ 359999
  · rw [show fdurR n = (durText n, 0) from if_pos h]; exact fmtDur_yes n h.1 h.2 w
  · rw [show fdurR n = ([], 2) from if_neg h]; exact still (fmtDur_no n (by omega) w)

set_option maxHeartbeats 1000000 in
theorem round_core (n : Int) (s a1 b2 a3 b4 : ByteArray) (e1 t1 f1 e2 d2 f2 t3 e3 f3 d4 e4 f4 : Int) (hs : ¬ 4096 < s.size)
    (h1 : (e1 == 0) = true ∧ (f1 != 0) = false ∧ (t1 != n) = false ∨ (e1 == 0) = false)
    (h2 : (e2 == 0) = true ∧ (f2 != 0) = false ∧ (d2 != n) = false ∨ (e2 == 0) = false)
    (h3 : (e3 == 0) = true ∧ (f3 != 0) = false ∧ (a3.toList == s.toList) = true ∨ (e3 == 0) = false)
    (h4 : (e4 != 0) = true ∨ (e4 != 0) = false ∧ (f4 == 0) = true ∧ (b4.toList == s.toList) = true)
    (c1 : ∀ w : World, Calls Tryd.prog 18 #[.int .i64 n] w fun e w' => e = .returned (.tuple #[.string a1, .int .i64 e1]) ∧ Below w.heap.size w w')
    (c2 : ∀ w : World, Calls Tryd.prog 20 #[.string a1] w fun e w' => e = .returned (.tuple #[.int .i64 t1, .int .i64 f1]) ∧ Below w.heap.size w w')
    (c3 : ∀ w : World, Calls Tryd.prog 22 #[.int .i64 n] w fun e w' => e = .returned (.tuple #[.string b2, .int .i64 e2]) ∧ Below w.heap.size w w')
    (c4 : ∀ w : World, Calls Tryd.prog 24 #[.string b2] w fun e w' => e = .returned (.tuple #[.int .i64 d2, .int .i64 f2]) ∧ Below w.heap.size w w')
    (c5 : ∀ w : World, Calls Tryd.prog 20 #[.string s] w fun e w' => e = .returned (.tuple #[.int .i64 t3, .int .i64 e3]) ∧ Below w.heap.size w w')
    (c6 : ∀ w : World, Calls Tryd.prog 18 #[.int .i64 t3] w fun e w' => e = .returned (.tuple #[.string a3, .int .i64 f3]) ∧ Below w.heap.size w w')
    (c7 : ∀ w : World, Calls Tryd.prog 24 #[.string s] w fun e w' => e = .returned (.tuple #[.int .i64 d4, .int .i64 e4]) ∧ Below w.heap.size w w')
    (c8 : ∀ w : World, Calls Tryd.prog 22 #[.int .i64 d4] w fun e w' => e = .returned (.tuple #[.string b4, .int .i64 f4]) ∧ Below w.heap.size w w') (w : World) :
    Calls Tryd.prog 11 #[.int .i64 n, .string s] w fun e w' => e = .returned (.bool true) ∧ Below w.heap.size w w' := by
  have C1 := Lib.hid c1
  have C2 := Lib.hid c2
  have C3 := Lib.hid c3
  have C4 := Lib.hid c4
  have C5 := Lib.hid c5
  have C6 := Lib.hid c6
  have C7 := Lib.hid c7
  have C8 := Lib.hid c8
  clear c1 c2 c3 c4 c5 c6 c7 c8
  have i : ¬ (4096 : Int) < (s.size : Int) := by omega
  rcases h1 with ⟨p1, q1, r1⟩ | p1 <;> rcases h2 with ⟨p2, q2, r2⟩ | p2 <;> rcases h3 with ⟨p3, q3, r3⟩ | p3 <;> rcases h4 with p4 | ⟨p4, q4, r4⟩
  all_goals
    go_enter Tryd.func11, Tryd.ntmps11
    go_wp2_with fail
    refine (C1.out _).mono ?_
    rintro e w1 ⟨rfl, b1⟩
    go_wp2_with fail
    refine (rel (W := w) (C2.out _) (by assumption)).mono ?_
    rintro e w2 ⟨rfl, b2⟩
    clear b1
    go_wp2_with fail
    refine (rel (W := w) (C3.out _) (by assumption)).mono ?_
    rintro e w3 ⟨rfl, b3⟩
    clear b2
    go_wp2_with fail
    refine (rel (W := w) (C4.out _) (by assumption)).mono ?_
    rintro e w4 ⟨rfl, b4⟩
    clear b3
    go_wp2_with fail
    refine (rel (W := w) (C5.out _) (by assumption)).mono ?_
    rintro e w5 ⟨rfl, b5⟩
    clear b4
    go_wp2_with fail
    refine (rel (W := w) (C6.out _) (by assumption)).mono ?_
    rintro e w6 ⟨rfl, b6⟩
    clear b5
    go_wp2_with fail
    refine (rel (W := w) (C7.out _) (by assumption)).mono ?_
    rintro e w7 ⟨rfl, b7⟩
    clear b6
    go_wp2_with fail
    refine (rel (W := w) (C8.out _) (by assumption)).mono ?_
    rintro e w8 ⟨rfl, b8⟩
    clear b7
    go_wp2_with fail
    refine (rel (W := w) (example_holds _) (by assumption)).mono ?_
    rintro e w9 ⟨rfl, b9⟩
    clear b8
    go_wp2_with fail
    go_ret
    exact ⟨rfl, b9⟩
theorem round_long (n : Int) (s : ByteArray) (h : 4096 < s.size) (w : World) :
    Calls Tryd.prog 11 #[.int .i64 n, .string s] w fun e w' => e = .returned (.bool true) ∧ Below w.heap.size w w' := by
  have i : (4096 : Int) < (s.size : Int) := by omega
  go_enter Tryd.func11, Tryd.ntmps11
  go_wp2_with (go_at_call 15; refine (example_holds _).mono ?_; rintro e w1 ⟨rfl, b1⟩)
  go_ret
  exact ⟨rfl, b1⟩

theorem durText_len (n : Int) (h0 : 0 ≤ n) (h1 : n ≤ 359999) : (durText n).length ≤ 100 := by
  unfold durText
  have l1 := dec_length (n / 3600) (by omega)
  have l2 := dec_length (n % 3600 / 60) (by omega)
  have l3 := dec_length (n % 60) (by omega)
  split
  · simp [two_len]; omega
  · split
    · simp [two_len]; omega
    · simp; omega
theorem neq_false {a b : Int} (h : a = b) : (a != b) = false := by rw [bne, beq_true h]; rfl

theorem round_law (n : Int) (s : ByteArray) (w : World) :
    Calls Tryd.prog 11 #[.int .i64 n, .string s] w fun e w' => e = .returned (.bool true) ∧ Below w.heap.size w w' := by
  by_cases hl : 4096 < s.size
  · exact round_long n s hl w
  have hz : s.data.toList.length = s.size := rfl
  refine round_core n s (str (fmtR n).1) (str (fdurR n).1) (str (fmtR (timeR s.data.toList).1).1) (str (fdurR (durR s.data.toList).1).1) (fmtR n).2 (timeR (fmtR n).1).1 (timeR (fmtR n).1).2 (fdurR n).2 (durR (fdurR n).1).1 (durR (fdurR n).1).2
    (timeR s.data.toList).1 (timeR s.data.toList).2 (fmtR (timeR s.data.toList).1).2 (durR s.data.toList).1 (durR s.data.toList).2 (fdurR (durR s.data.toList).1).2 hl ?_ ?_ ?_ ?_
    (fmt_any n) (fun w => parse_any (str (fmtR n).1) w) (fdur_any n) (parseDur_any _ ?_) (parse_any s) (fmt_any _) ?_ (fdur_any _) w
  · by_cases h : 0 ≤ n ∧ n ≤ 172800
    · rw [show fmtR n = (timeText n, 0) from if_pos h]
      have e := time_there n h.1 h.2
      exact Or.inl ⟨rfl, neq_false (congrArg Prod.snd e), neq_false (congrArg Prod.fst e)⟩
    · rw [show fmtR n = ([], 10) from if_neg h]
      exact Or.inr rfl
  · by_cases h : 0 ≤ n ∧ n ≤ 359999
    · rw [show fdurR n = (durText n, 0) from if_pos h]
      have e := dur_there n h.1 h.2
      exact Or.inl ⟨rfl, neq_false (congrArg Prod.snd e), neq_false (congrArg Prod.fst e)⟩
    · rw [show fdurR n = ([], 2) from if_neg h]
      exact Or.inr rfl
  · by_cases h : (timeR s.data.toList).2 = 0
    · obtain ⟨h0, h1, ht⟩ := time_back _ h
      rw [show fmtR (timeR s.data.toList).1 = (timeText (timeR s.data.toList).1, 0) from if_pos ⟨h0, h1⟩, ht]
      exact Or.inl ⟨beq_true h, rfl, by rw [Lib.toList_data]; exact beq_self_eq_true _⟩
    · exact Or.inr (beq_false h)
  · by_cases h : (durR s.data.toList).2 = 0
    · obtain ⟨h0, h1, ht⟩ := dur_back _ h
      rw [show fdurR (durR s.data.toList).1 = (durText (durR s.data.toList).1, 0) from if_pos ⟨h0, h1⟩, ht]
      exact Or.inr ⟨neq_false h, rfl, by rw [Lib.toList_data]; exact beq_self_eq_true _⟩
    · exact Or.inl (bne_true h)
  · by_cases h : 0 ≤ n ∧ n ≤ 359999
    · rw [show fdurR n = (durText n, 0) from if_pos h]
      have := durText_len n h.1 h.2
      simp only
      omega
    · rw [show fdurR n = ([], 2) from if_neg h]
      simp
  · intro w
    have h := parseDur_any s.data.toList (by omega) w
    rw [show str s.data.toList = s from Lib.mk_data s] at h
    exact h
end Go.Proofs.YtnojjmpcgbbofaaDoor
