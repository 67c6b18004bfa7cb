/-
  The functions of package number and of its reference that read integers: what each call answers; nothing that existed before the call has changed behind it. Condition: a text of at most 4096 bytes; the library's variable ErrRange holds an error.
-/
import Derived.Test.YtaglpfilopcniaaDoorNFmt
namespace Go.Proofs.YtaglpfilopcniaaDoor
open Go.RowKit

theorem below_bytes {w w' : World} (h : w' = w ∨ ∃ t, w' = Lib.bytesWorld w 5 t) : Below w.heap.size w w' := by
  rcases h with rfl | ⟨t, rfl⟩
  · exact Below.refl _ _
  · exact Lib.bytesWorld_below _ _ _
theorem atoi_ok (l : List UInt8) (hs : l.length ≤ 4096) (h : formed l = true) (k : fits (sgn l) = true) (w : World) :
    Calls Tryd.prog 33 #[.string (str l)] w fun e w' => e = .returned (.tuple #[.int .i64 (sgn l), .nilIface]) ∧ Below w.heap.size w w' := by
  have hz := size_str l
  refine (Tryd.strconv_Atoi_ok (str l) (by omega) (sgn l) (by rw [show (str l).data.toList = l from rfl, atoi_formed l h, if_pos k]) w).mono ?_
  rintro e w' ⟨rfl, h⟩
  exact ⟨rfl, below_bytes h⟩
def BadNum (w : World) (e : Ending) (w' : World) : Prop := ∃ v a, e = .returned (.tuple #[.int .i64 v, .iface 57 (.pointer (some a))]) ∧ Below w.heap.size w w'
theorem atoi_range (l : List UInt8) (hs : l.length ≤ 4096) (h : formed l = true) (k : fits (sgn l) = false) (w : World) (hg : Good w) :
    Calls Tryd.prog 33 #[.string (str l)] w (BadNum w) := by
  have hz := size_str l
  obtain ⟨tp, p, hv⟩ := hg
  refine (Tryd.strconv_Atoi_range_var (str l) (by omega) (by rw [show (str l).data.toList = l from rfl, atoi_formed l h, if_neg (by simp [k])]) tp p w hv).mono ?_
  rintro e w' ⟨N, rfl, _, _, b⟩
  exact ⟨_, _, rfl, b⟩
theorem trim_any (l : List UInt8) (w : World) : Calls Tryd.prog 32 #[.string (str l), .string (str [45])] w fun e w' => e = .returned (.string (str (body l))) ∧ w = w' :=
  (Tryd.strings_TrimPrefix (str l) (str [45]) w).mono fun _ _ ⟨he, hw⟩ => ⟨he, hw.symm⟩
theorem body_len (l : List UInt8) : (body l).length ≤ l.length := by
  cases h : neg l with
  | true =>
    have e := neg_split l h
    have := congrArg List.length e
    simp at this
    omega
  | false => rw [body_pos l h]; omega
theorem parse_nat (l : List UInt8) (hs : l.length ≤ 4096) (h : nat (body l) = false) (w : World) : Calls Tryd.prog 11 #[.string (str l)] w fun e w' => e = .returned (.tuple #[.int .i64 0, .int .i64 3]) ∧ w = w' := by
  have T := Lib.hid (fun w => trim_any l w)
  have N := Lib.hid (fun w => natural_any (body l) (Nat.le_trans (body_len l) hs) w)
  rw [h] at N
  clear h
  go_enter Tryd.func11, Tryd.ntmps11
  go_wp2_with (first | (go_at_call 32; refine (T.out _).mono ?_; rintro e w' ⟨rfl, rfl⟩) | (go_at_call 31; refine (N.out _).mono ?_; rintro e w' ⟨rfl, rfl⟩))
  go_ret2
  exact ⟨rfl, rfl⟩
theorem parse_zero (w : World) : Calls Tryd.prog 11 #[.string (str [45, 48])] w fun e w' => e = .returned (.tuple #[.int .i64 0, .int .i64 3]) ∧ w = w' := by
  have T := Lib.hid (fun w => trim_any [45, 48] w)
  rw [show body [45, 48] = [48] from rfl] at T
  have N := Lib.hid (fun w => natural_48 w)
  go_enter Tryd.func11, Tryd.ntmps11
  go_wp2_with (first | (go_at_call 32; refine (T.out _).mono ?_; rintro e w' ⟨rfl, rfl⟩) | (go_at_call 31; refine (N.out _).mono ?_; rintro e w' ⟨rfl, rfl⟩))
  go_ret2
  exact ⟨rfl, rfl⟩
theorem parse_ok (l : List UInt8) (hs : l.length ≤ 4096) (h : nat (body l) = true) (h2 : l ≠ [45, 48]) (hf : formed l = true) (k : fits (sgn l) = true) (w : World) : Calls Tryd.prog 11 #[.string (str l)] w fun e w' => e = .returned (.tuple #[.int .i64 (sgn l), .int .i64 0]) ∧ Below w.heap.size w w' := by
  have T := Lib.hid (fun w => trim_any l w)
  have N := Lib.hid (fun w => natural_any (body l) (Nat.le_trans (body_len l) hs) w)
  rw [h] at N
  have A := Lib.hid (fun w => atoi_ok l hs hf k w)
  have q := ne_of l [45, 48] h2
  generalize hL : sgn l = v at A ⊢
  generalize str l = s at *
  clear h hf k h2 hL hs
  go_enter Tryd.func11, Tryd.ntmps11
  go_wp2_with (first | (go_at_call 32; refine (T.out _).mono ?_; rintro e w' ⟨rfl, rfl⟩) | (go_at_call 31; refine (N.out _).mono ?_; rintro e w' ⟨rfl, rfl⟩) | (go_at_call 33; refine (A.out _).mono ?_; rintro e w1 ⟨rfl, b1⟩))
  go_ret2
  exact ⟨rfl, b1⟩
theorem parse_range (l : List UInt8) (hs : l.length ≤ 4096) (h : nat (body l) = true) (h2 : l ≠ [45, 48]) (hf : formed l = true) (k : fits (sgn l) = false) (w : World) (hg : Good w) : Calls Tryd.prog 11 #[.string (str l)] w fun e w' => e = .returned (.tuple #[.int .i64 0, .int .i64 2]) ∧ Below w.heap.size w w' := by
  have T := Lib.hid (fun w => trim_any l w)
  have N := Lib.hid (fun w => natural_any (body l) (Nat.le_trans (body_len l) hs) w)
  rw [h] at N
  have A := Lib.hid (atoi_range l hs hf k w hg)
  have q := ne_of l [45, 48] h2
  generalize str l = s at *
  clear h hf k h2 hs
  go_enter Tryd.func11, Tryd.ntmps11
  go_wp2_with (first | (go_at_call 32; refine (T.out _).mono ?_; rintro e w' ⟨rfl, rfl⟩) | (go_at_call 31; refine (N.out _).mono ?_; rintro e w' ⟨rfl, rfl⟩) | (go_at_call 33; refine A.out.mono ?_; rintro e w1 ⟨v, a, rfl, b1⟩))
  go_ret2
  exact ⟨rfl, b1⟩
theorem formed_parts {l : List UInt8} (h : formed l = true) : nat (body l) = true ∧ l ≠ [45, 48] := by
  unfold formed at h
  rw [Bool.and_eq_true] at h
  exact ⟨h.1, by simpa using h.2⟩
theorem parse_any (l : List UInt8) (hs : l.length ≤ 4096) (w : World) (hg : Good w) : Calls Tryd.prog 11 #[.string (str l)] w fun e w' => e = .returned (.tuple #[.int .i64 ((numR l).1), .int .i64 ((numR l).2)]) ∧ Below w.heap.size w w' := by
  cases hf : formed l with
  | false =>
    rw [numR_syntax hf]
    cases hn : nat (body l) with
    | false => exact still (parse_nat l hs hn w)
    | true =>
      have : l = [45, 48] := by unfold formed at hf; rw [hn] at hf; simpa using hf
      subst this
      exact still (parse_zero w)
  | true =>
    obtain ⟨h1, h2⟩ := formed_parts hf
    cases k : fits (sgn l) with
    | true => rw [numR_ok hf k]; exact parse_ok l hs h1 h2 hf k w
    | false => rw [numR_range hf k]; exact parse_range l hs h1 h2 hf k w hg

/-! ### ParseRange -/
/-- What a text is read as within a range. -/
def rngR (l : List UInt8) (lo hi : Int) : Int × Int := if (numR l).2 = 0 then (if lo ≤ (numR l).1 ∧ (numR l).1 ≤ hi then ((numR l).1, 0) else (0, 2)) else (0, (numR l).2)
theorem numR_err (l : List UInt8) : (numR l).2 = 0 ∨ (numR l).2 = 2 ∨ (numR l).2 = 3 := by
  unfold numR
  split
  · split
    · exact Or.inl rfl
    · exact Or.inr (Or.inl rfl)
  · exact Or.inr (Or.inr rfl)
theorem prange_err (l : List UInt8) (lo hi n c : Int) (w : World) (C : ∀ w : World, Good w → Calls Tryd.prog 11 #[.string (str l)] w fun e w' => e = .returned (.tuple #[.int .i64 n, .int .i64 c]) ∧ Below w.heap.size w w') (hc : (c != 0) = true) (hg : Good w) : Calls Tryd.prog 15 #[.string (str l), .int .i64 lo, .int .i64 hi] w fun e w' => e = .returned (.tuple #[.int .i64 0, .int .i64 c]) ∧ Below w.heap.size w w' := by
  have P := Lib.hid (C w hg)
  clear C
  generalize str l = s at *
  go_enter Tryd.func15, Tryd.ntmps15
  go_wp2_with (go_at_call 11; refine P.out.mono ?_; rintro e w1 ⟨rfl, b1⟩)
  go_ret2
  exact ⟨rfl, b1⟩
theorem prange_in (l : List UInt8) (lo hi n : Int) (w : World) (C : ∀ w : World, Good w → Calls Tryd.prog 11 #[.string (str l)] w fun e w' => e = .returned (.tuple #[.int .i64 n, .int .i64 0]) ∧ Below w.heap.size w w') (h0 : lo ≤ n) (h1 : n ≤ hi) (hg : Good w) : Calls Tryd.prog 15 #[.string (str l), .int .i64 lo, .int .i64 hi] w fun e w' => e = .returned (.tuple #[.int .i64 n, .int .i64 0]) ∧ Below w.heap.size w w' := by
  have P := Lib.hid (C w hg)
  clear C
  generalize str l = s at *
  go_enter Tryd.func15, Tryd.ntmps15
  go_wp2_with (go_at_call 11; refine P.out.mono ?_; rintro e w1 ⟨rfl, b1⟩)
  refine (between_any _ _ _).mono ?_
  rintro e w' ⟨rfl, rfl⟩
  go_wp2_with fail
  refine (inside_yes _ _ _ h0 h1 _).mono ?_
  rintro e w' ⟨rfl, rfl⟩
  go_wp2_with fail
  go_ret2
  exact ⟨rfl, rng_over b1 _ _⟩
theorem prange_out (l : List UInt8) (lo hi n : Int) (w : World) (C : ∀ w : World, Good w → Calls Tryd.prog 11 #[.string (str l)] w fun e w' => e = .returned (.tuple #[.int .i64 n, .int .i64 0]) ∧ Below w.heap.size w w') (h : n < lo ∨ hi < n) (hg : Good w) : Calls Tryd.prog 15 #[.string (str l), .int .i64 lo, .int .i64 hi] w fun e w' => e = .returned (.tuple #[.int .i64 0, .int .i64 2]) ∧ Below w.heap.size w w' := by
  have P := Lib.hid (C w hg)
  have H := Lib.hid h
  clear C h
  generalize str l = s at *
  go_enter Tryd.func15, Tryd.ntmps15
  go_wp2_with (go_at_call 11; refine P.out.mono ?_; rintro e w1 ⟨rfl, b1⟩)
  refine (between_any _ _ _).mono ?_
  rintro e w' ⟨rfl, rfl⟩
  go_wp2_with fail
  refine (inside_no _ _ _ H.out _).mono ?_
  rintro e w' ⟨rfl, rfl⟩
  go_wp2_with fail
  go_ret2
  exact ⟨rfl, rng_over b1 _ _⟩
theorem prange_any (l : List UInt8) (hs : l.length ≤ 4096) (lo hi : Int) (w : World) (hg : Good w) : Calls Tryd.prog 15 #[.string (str l), .int .i64 lo, .int .i64 hi] w fun e w' => e = .returned (.tuple #[.int .i64 ((rngR l lo hi).1), .int .i64 ((rngR l lo hi).2)]) ∧ Below w.heap.size w w' := by
  have C := fun w hg => parse_any l hs w hg
  have hb := numR_err l
  unfold rngR
  generalize numR l = r at C hb ⊢
  obtain ⟨n, c⟩ := r
  by_cases h0 : c = 0
  · subst h0
    rw [if_pos rfl]
    by_cases h1 : lo ≤ n ∧ n ≤ hi
    · rw [if_pos h1]; exact prange_in l lo hi n w C h1.1 h1.2 hg
    · rw [if_neg h1]; exact prange_out l lo hi n w C (by omega) hg
  · rw [if_neg h0]
    exact prange_err l lo hi n c w C (bne_true h0) hg
end Go.Proofs.YtaglpfilopcniaaDoor
