/-
  The comparison of two footpaths that the sort is handed: by from, to, seconds. Condition: none.
-/
import Derived.Test.YtibakhobgfiklaaFpS
import Derived.Test.YtibakhobgfiklaaMd
import Derived.Test.YtibakhobgfiklaaMa
import Derived.StillTailTactics
import Derived.Lib.ItoaNum
namespace Go.Proofs.Ytibakhobgfiklaa
open Go.RowKit

/-- The first number that is not 0. -/
def orL : List Int → Int
  | [] => 0
  | x :: r => if x = 0 then orL r else x
theorem or_drop {l : List Int} {k : Nat} {x : Int} (h : l[k]? = some x) : orL (l.drop k) = if x = 0 then orL (l.drop (k + 1)) else x := by
  have hk := (List.getElem?_eq_some_iff.1 h).1
  rw [List.drop_eq_getElem_cons hk, (List.getElem?_eq_some_iff.1 h).2]
  rfl
/-- Two numbers compared. -/
def ciF (a b : Int) : Int := if a < b then -1 else if b < a then 1 else 0
/-- Two footpaths compared. -/
def cfP (x y : Fp) : Int := orL [ciF x.1 y.1, ciF x.2.1 y.2.1, ciF x.2.2.1 y.2.2.1]
theorem ci_cases (a b : Int) : (ciF a b = -1 ∧ a < b) ∨ (ciF a b = 0 ∧ a = b) ∨ (ciF a b = 1 ∧ b < a) := by
  unfold ciF
  by_cases h1 : a < b
  · rw [if_pos h1]; exact .inl ⟨rfl, h1⟩
  · rw [if_neg h1]
    by_cases h2 : b < a
    · rw [if_pos h2]; exact .inr (.inr ⟨rfl, h2⟩)
    · rw [if_neg h2]; exact .inr (.inl ⟨rfl, by omega⟩)
theorem cfP_neg {x y : Fp} : cfP x y < 0 ↔ x.1 < y.1 ∨ x.1 = y.1 ∧ (x.2.1 < y.2.1 ∨ x.2.1 = y.2.1 ∧ x.2.2.1 < y.2.2.1) := by
  unfold cfP
  simp only [orL]
  rcases ci_cases x.1 y.1 with ⟨h, e⟩ | ⟨h, e⟩ | ⟨h, e⟩ <;> rcases ci_cases x.2.1 y.2.1 with ⟨h2, e2⟩ | ⟨h2, e2⟩ | ⟨h2, e2⟩ <;> rcases ci_cases x.2.2.1 y.2.2.1 with ⟨h3, e3⟩ | ⟨h3, e3⟩ | ⟨h3, e3⟩ <;> simp only [h, h2, h3] <;> constructor <;> intro hh <;> first | omega | (exfalso; revert hh; decide) | decide
theorem cfP_zero {x y : Fp} : cfP x y = 0 ↔ x.1 = y.1 ∧ x.2.1 = y.2.1 ∧ x.2.2.1 = y.2.2.1 := by
  unfold cfP
  simp only [orL]
  rcases ci_cases x.1 y.1 with ⟨h, e⟩ | ⟨h, e⟩ | ⟨h, e⟩ <;> rcases ci_cases x.2.1 y.2.1 with ⟨h2, e2⟩ | ⟨h2, e2⟩ | ⟨h2, e2⟩ <;> rcases ci_cases x.2.2.1 y.2.2.1 with ⟨h3, e3⟩ | ⟨h3, e3⟩ | ⟨h3, e3⟩ <;> simp only [h, h2, h3] <;> constructor <;> intro hh <;> first | omega | (exfalso; revert hh; decide) | decide
/-- The order of numbered footpaths: where the comparison leaves them open, by their numbers. -/
abbrev Tg := Fp × Nat
def cfT (x y : Tg) : Int := cfP x.1 y.1
def ltT (x y : Tg) : Prop := cfP x.1 y.1 < 0 ∨ cfP x.1 y.1 = 0 ∧ x.2 < y.2
theorem ordT : Ord cfT ltT where
  trans {x y z} h1 h2 := by
    unfold ltT at *
    rw [cfP_neg, cfP_zero] at *
    omega
  less {x y} h := .inl h
  tie {x y} h1 h2 := by
    unfold cfT at h1 h2
    by_cases h : cfP x.1 y.1 = 0
    · exact h2 h
    · refine .inl ?_
      rw [cfP_neg] at *
      rw [cfP_zero] at h
      omega

/-! ### The calls -/
theorem nan_any (a : Int) (w : World) : Calls Try.prog 69 #[.int .i64 a] w fun e w' => e = .returned (.bool false) ∧ w = w' := by
  go_enter Try.func69, Try.ntmps69
  go_wp2_with fail
  go_ret
  exact ⟨by simp, rfl⟩
theorem compare_any (a b : Int) (w : World) : Calls Try.prog 49 #[.int .i64 a, .int .i64 b] w fun e w' => e = .returned (.int .i64 (ciF a b)) ∧ w = w' := by
  unfold ciF
  by_cases h1 : a < b
  · rw [if_pos h1]
    go_enter Try.func49, Try.ntmps49
    go_wp2_with fail
    refine (nan_any a _).mono ?_
    rintro e w' ⟨rfl, rfl⟩
    go_wp2_with fail
    refine (nan_any b _).mono ?_
    rintro e w' ⟨rfl, rfl⟩
    go_wp2_with fail
    go_ret
    exact ⟨rfl, rfl⟩
  · rw [if_neg h1]
    have d1 : decide (a < b) = false := decide_eq_false h1
    by_cases h2 : b < a
    · rw [if_pos h2]
      clear h1
      go_enter Try.func49, Try.ntmps49
      go_wp2_with fail
      refine (nan_any a _).mono ?_
      rintro e w' ⟨rfl, rfl⟩
      go_wp2_with fail
      refine (nan_any b _).mono ?_
      rintro e w' ⟨rfl, rfl⟩
      go_wp2_with fail
      go_ret
      exact ⟨rfl, rfl⟩
    · rw [if_neg h2]
      have d2 : decide (b < a) = false := decide_eq_false h2
      clear h1 h2
      go_enter Try.func49, Try.ntmps49
      go_wp2_with fail
      refine (nan_any a _).mono ?_
      rintro e w' ⟨rfl, rfl⟩
      go_wp2_with fail
      refine (nan_any b _).mono ?_
      rintro e w' ⟨rfl, rfl⟩
      go_wp2_with fail
      go_ret
      exact ⟨rfl, rfl⟩
set_option maxHeartbeats 1000000 in
theorem or_any (l : List Int) (hl : l.length ≤ 1000) (v : Value) (w : World) (h : LstI w v l) : Calls Try.prog 48 #[v] w fun e w' => e = .returned (.int .i64 (orL l)) ∧ w = w' := by
  have hh := h
  obtain ⟨A, c, rfl, -⟩ := hh
  have H := Lib.hid h
  clear h
  go_enter Try.func48, Try.ntmps48
  go_wp2_with fail
  go_loopw [8] (fun i wr => ∃ k : Nat, i = .int .i64 (k : Int) ∧ k ≤ l.length ∧ Hid (orL (l.drop k) = orL l) ∧ wr = w) (fun i _ => l.length - (intOf i).toNat)
  case atStart => exact ⟨0, rfl, Nat.zero_le _, Lib.hid rfl, rfl⟩
  case round =>
    obtain ⟨k, rfl, hk, HL, hw⟩ := hrel
    have hw' := hw.symm
    subst hw'
    clear hw
    by_cases hlt : k < l.length
    · obtain ⟨x, hx⟩ := at_lt hlt
      obtain ⟨b, o, rfl, hb, m0⟩ := int_cell H.out hx
      have gk : (k : Int) < (l.length : Int) := by omega
      have E := or_drop hx
      clear hx
      by_cases h0 : x = 0
      · have N : Hid (orL (l.drop (k + 1)) = orL l) := by have := HL.out; rw [E, if_pos h0] at this; exact this
        have t := neq_false (a := x) (b := 0) h0
        clear E h0 HL
        go_wp2_with fail
        go_roundw
        case rel => exact ⟨k + 1, by go_num, by omega, N, by first | rfl | trivial⟩
        case measure => simp [intOf]; omega
      · have N : Hid (orL l = x) := by
          have := HL.out
          rw [E, if_neg h0] at this
          exact this.symm
        have t := bne_true (a := x) (b := 0) h0
        clear E h0 HL
        go_wp2_with fail
        go_ret
        exact ⟨ret_int N.out.symm, rfl⟩
    · have d : decide (k < l.length) = false := by rw [decide_eq_false_iff_not]; exact hlt
      have N : Hid (orL l = 0) := by
        have := HL.out
        rw [List.drop_eq_nil_of_le (by omega)] at this
        exact this.symm
      clear hlt HL
      go_wp2_with fail
      go_ret
      exact ⟨ret_int N.out.symm, rfl⟩
set_option maxRecDepth 100000 in
set_option maxHeartbeats 2000000 in
theorem cmp_any (a b s : Int) (f : Bool) (a' b' s' : Int) (f' : Bool) (w : World) : Calls Try.prog 47 #[fpV a b s f, fpV a' b' s' f'] w fun e w' => e = .returned (.int .i64 (cfP (a, b, s, f) (a', b', s', f'))) ∧ Below w.heap.size w w' := by
  obtain ⟨w7, hw7⟩ : ∃ W, w.alloc (boxF a b s f) = W := ⟨_, rfl⟩
  obtain ⟨b7, p0, p1, p2, -, s7, c7⟩ := box_fp hw7
  obtain ⟨w8, hw8⟩ : ∃ W, w7.alloc (boxF a' b' s' f') = W := ⟨_, rfl⟩
  obtain ⟨b8, q0, q1, q2, -, s8, c8⟩ := box_fp hw8
  obtain ⟨p0, p1, p2, -⟩ := row_fp ((b8.block _ s7).trans c7)
  have z7 : w7.heap.size = w.heap.size + 1 := by rw [← hw7]; simp
  rw [z7] at q0 q1 q2
  have B8 := Lib.hid (b7.trans (b8.mono b7.size))
  have C0 := Lib.hid (fun W => compare_any a a' W)
  have C1 := Lib.hid (fun W => compare_any b b' W)
  have C2 := Lib.hid (fun W => compare_any s s' W)
  have CF : Hid (orL [ciF a a', ciF b b', ciF s s'] = cfP (a, b, s, f) (a', b', s', f')) := Lib.hid rfl
  generalize ciF a a' = r0 at *
  generalize ciF b b' = r1 at *
  generalize ciF s s' = r2 at *
  clear b7 b8 c7 c8 s7 s8
  go_enter Try.func47, Try.ntmps47
  go_wp2_with fail
  clear hw7 hw8 z7
  go_still_tail 15, (by kernel_rfl)
  still_call ((C0.out _).mono fun e w' h => ⟨h.1, h.2.symm⟩)
  repeat still_step
  still_call ((C1.out _).mono fun e w' h => ⟨h.1, h.2.symm⟩)
  repeat still_step
  still_call ((C2.out _).mono fun e w' h => ⟨h.1, h.2.symm⟩)
  refine wpStill_nil ?_
  change wpList _ _ _ _ _ w8.drew
  go_wp2_with fail
  have O := or_any [r0, r1, r2] (by simp) (.slice (some ⟨w8.heap.size, 0, none⟩) 3 3) (w8.alloc (.cells #[.int .i64 r0, .int .i64 r1, .int .i64 r2] 3 (0, 0))).drew ((lsti_lit w8 #[.int .i64 r0, .int .i64 r1, .int .i64 r2] [r0, r1, r2] rfl 3 rfl).below (Below.refl _ _).drew)
  refine O.mono ?_
  rintro e w9 ⟨rfl, rfl⟩
  have B9 := Lib.hid ((B8.out.alloc B8.out.size (.cells #[.int .i64 r0, .int .i64 r1, .int .i64 r2] 3 (0, 0))).drew)
  clear O C0 C1 C2
  go_wp2_with fail
  go_ret
  exact ⟨ret_int CF.out, B9.out⟩
end Go.Proofs.Ytibakhobgfiklaa
