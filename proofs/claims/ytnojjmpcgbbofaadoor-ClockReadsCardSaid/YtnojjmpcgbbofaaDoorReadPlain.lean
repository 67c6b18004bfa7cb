/-
  Plain facts: what the texts of durations look like, read from their ends. Condition: none beyond each theorem's own hypotheses.
-/
import Derived.Test.YtnojjmpcgbbofaaDoorDurs
namespace Go.Proofs.YtnojjmpcgbbofaaDoor
open Go

/-- A decimal number without leading zeros. -/
def plainD (l : List UInt8) : Bool := digs l && (decide (l.length = 1) || decide (1 < l.length) && !(l[0]? == some 48))
/-- The number that the digits denote, or a million if there are more than six of them. -/
def valM (l : List UInt8) : Nat := if 6 < l.length then 1000000 else valN l

theorem plain_cases (l : List UInt8) (h : plainD l = true) : digs l = true ∧ (l = [48] ∨ posD l = true) := by
  unfold plainD at h
  rw [Bool.and_eq_true] at h
  obtain ⟨hd, h⟩ := h
  refine ⟨hd, ?_⟩
  by_cases h1 : l.length = 1
  · match l, h1 with
    | [a], _ =>
      by_cases ha : a = 48
      · exact Or.inl (by rw [ha])
      · exact Or.inr ((posD_iff _).2 ⟨by simp, by simp [ha], hd⟩)
  · have h2 : 1 < l.length ∧ ¬ l[0]? = some 48 := by simpa [h1] using h
    refine Or.inr ((posD_iff _).2 ⟨fun hn => ?_, h2.2, hd⟩)
    rw [hn] at h2
    exact absurd h2.1 (by decide)
theorem pos_plain (l : List UInt8) (h : posD l = true) : plainD l = true := by
  obtain ⟨hn, h0, hd⟩ := (posD_iff l).1 h
  unfold plainD
  rw [hd]
  by_cases h1 : l.length = 1
  · simp [h1]
  · have h2 : 1 < l.length := by
      have : l.length ≠ 0 := fun hz => hn (List.length_eq_zero_iff.1 hz)
      omega
    simp [h2, h0]
theorem fold_ge : ∀ (l : List UInt8) (a : Nat), a * 10 ^ l.length ≤ l.foldl (fun n c => n * 10 + (c.toNat - 48)) a
  | [], a => by simp
  | c :: l, a => by
    have := fold_ge l (a * 10 + (c.toNat - 48))
    rw [List.foldl_cons, List.length_cons, Nat.pow_succ]
    refine Nat.le_trans ?_ this
    rw [Nat.mul_comm (10 ^ l.length) 10, ← Nat.mul_assoc]
    exact Nat.mul_le_mul_right _ (by omega)
theorem pos_big (l : List UInt8) (h : posD l = true) : 10 ^ (l.length - 1) ≤ valN l := by
  obtain ⟨hn, h0, hd⟩ := (posD_iff l).1 h
  match l, hn with
  | c :: t, _ =>
    have hc : dig c = true := by
      have : dig c = true ∧ digs t = true := by simpa [digs] using hd
      exact this.1
    have h1 := (dig_iff c).1 hc
    have hz : c.toNat ≠ 48 := fun he => h0 (by rw [show c = 48 from UInt8.toNat_inj.1 he]; rfl)
    have := fold_ge t (c.toNat - 48)
    have h2 : valN (c :: t) = t.foldl (fun n c => n * 10 + (c.toNat - 48)) (c.toNat - 48) := by simp [valN]
    rw [h2, List.length_cons, Nat.add_sub_cancel]
    refine Nat.le_trans ?_ this
    exact Nat.le_mul_of_pos_left _ (by omega)
theorem pos_one (l : List UInt8) (h : posD l = true) : 1 ≤ valN l := Nat.le_trans (pow10_pos _) (pos_big l h)
theorem pos_three (l : List UInt8) (h : posD l = true) (hl : 2 < l.length) : 100 ≤ valN l :=
  Nat.le_trans (Nat.pow_le_pow_right (n := 10) (i := 2) (by decide) (by omega : 2 ≤ l.length - 1)) (pos_big l h)
theorem valM_small (l : List UInt8) (h : l.length ≤ 2) : valM l = valN l := by unfold valM; rw [if_neg (by omega)]
theorem valM_le (l : List UInt8) (h : digs l = true) : valM l ≤ 1000000 := by
  unfold valM
  split
  · exact Nat.le_refl _
  · have h1 := valN_lt l h
    have h2 : 10 ^ l.length ≤ 10 ^ 6 := Nat.pow_le_pow_right (by decide) (by omega)
    omega
theorem valM_three (l : List UInt8) (h : posD l = true) (hl : 2 < l.length) : 100 ≤ valM l := by
  unfold valM
  split
  · decide
  · exact pos_three l h hl
theorem valM_one (l : List UInt8) (h : posD l = true) : 1 ≤ valM l := by
  unfold valM
  split
  · decide
  · exact pos_one l h
theorem first_of (l : List UInt8) (h : posD l = true) (hv : valM l < 60) : firstD l = true ∧ valM l = valN l := by
  have h2 : l.length ≤ 2 := by
    by_cases hx : 2 < l.length
    · have := valM_three l h hx; omega
    · omega
  have e := valM_small l h2
  exact ⟨(firstD_iff l).2 ⟨h, h2, by omega⟩, e⟩
theorem first_to (l : List UInt8) (h : firstD l = true) : plainD l = true ∧ 0 < valM l ∧ valM l < 60 ∧ valM l = valN l := by
  obtain ⟨hp, h2, hv⟩ := (firstD_iff l).1 h
  have e := valM_small l h2
  have := pos_one l hp
  exact ⟨pos_plain l hp, by omega, by omega, e⟩

/-- The forms of a text without its s. -/
theorem rest_inv (r : List UInt8) : restR r = (0, 3) ∨
    (∃ H M S, r = H ++ 104 :: (M ++ 109 :: S) ∧ laterD M = true ∧ laterD S = true ∧ posD H = true) ∨
    (∃ M S, r = M ++ 109 :: S ∧ firstD M = true ∧ laterD S = true) ∨ r = [48] ∨ firstD r = true := by
  by_cases hh : 104 ∈ r
  · obtain ⟨H, T, rfl, hn, e1, e2⟩ := split_at 104 r hh
    have e : restR (H ++ 104 :: T) = hoursR H T := by unfold restR; rw [if_pos hh, e1, e2]
    rw [e]
    by_cases hc : 109 ∈ T ∧ laterD (before 109 T) = true ∧ laterD (after 109 T) = true ∧ posD H = true
    · obtain ⟨hT, lM, lS, pH⟩ := hc
      obtain ⟨M, S, rfl, hn2, e3, e4⟩ := split_at 109 T hT
      rw [e3] at lM
      rw [e4] at lS
      exact Or.inr (Or.inl ⟨H, M, S, rfl, lM, lS, pH⟩)
    · exact Or.inl (by unfold hoursR; rw [if_neg hc])
  · by_cases hm : 109 ∈ r
    · obtain ⟨M, S, rfl, hn, e1, e2⟩ := split_at 109 r hm
      have e : restR (M ++ 109 :: S) = minutesR M S := by unfold restR; rw [if_neg hh, if_pos hm, e1, e2]
      rw [e]
      by_cases hc : firstD M = true ∧ laterD S = true
      · exact Or.inr (Or.inr (Or.inl ⟨M, S, rfl, hc.1, hc.2⟩))
      · exact Or.inl (by unfold minutesR; rw [if_neg hc])
    · by_cases h0 : r = [48]
      · exact Or.inr (Or.inr (Or.inr (Or.inl h0)))
      · by_cases hf : firstD r = true
        · exact Or.inr (Or.inr (Or.inr (Or.inr hf)))
        · exact Or.inl (by unfold restR; rw [if_neg hh, if_neg hm, if_neg h0, if_neg hf])

theorem later_two (S : List UInt8) (h : laterD S = true) : ∃ a b, S = [a, b] := by
  obtain ⟨h2, _, _⟩ := (laterD_iff S).1 h
  match S, h2 with
  | [a, b], _ => exact ⟨a, b, rfl⟩
theorem plain_zero : plainD [48] = true ∧ valM [48] = 0 := by decide
theorem no_m (R z : List UInt8) (c : UInt8) (hc : dig c = false) : digs (R ++ c :: z) = false := by
  unfold digs
  rw [List.all_append, List.all_cons, hc]
  simp
/-- The last three bytes of a list. -/
theorem last_three (r : List UInt8) (h : 3 ≤ r.length) : ∃ R c a b, r = R ++ [c, a, b] := by
  refine ⟨r.take (r.length - 3), r[r.length - 3], r[r.length - 2], r[r.length - 1], ?_⟩
  apply List.ext_getElem?
  intro i
  by_cases hi : i < r.length - 3
  · rw [List.getElem?_append_left (by rw [List.length_take]; omega), List.getElem?_take_of_lt hi]
  · rw [List.getElem?_append_right (by rw [List.length_take]; omega), List.length_take, show min (r.length - 3) r.length = r.length - 3 by omega]
    by_cases h0 : i = r.length - 3
    · rw [h0, Nat.sub_self, List.getElem?_eq_getElem (by omega)]; rfl
    · by_cases h1 : i = r.length - 2
      · rw [h1, show r.length - 2 - (r.length - 3) = 1 by omega, List.getElem?_eq_getElem (by omega)]; rfl
      · by_cases h2 : i = r.length - 1
        · rw [h2, show r.length - 1 - (r.length - 3) = 2 by omega, List.getElem?_eq_getElem (by omega)]; rfl
        · rw [List.getElem?_eq_none (by omega), List.getElem?_eq_none (by simp; omega)]
/-- The last three bytes of two spellings. -/
theorem tails (R R' z z' : List UInt8) (h : R ++ z = R' ++ z') (hl : z.length = z'.length) : R = R' ∧ z = z' := by
  have := List.append_inj' h hl
  exact this

/-- Not a plain number below 60, too short for minutes. -/
theorem fail_short (r : List UInt8) (hA : ¬ (plainD r = true ∧ valM r < 60)) (hl : r.length < 4) : restR r = (0, 3) := by
  rcases rest_inv r with h | ⟨H, M, S, rfl, lM, lS, pH⟩ | ⟨M, S, rfl, fM, lS⟩ | rfl | hf
  · exact h
  · obtain ⟨a, b, rfl⟩ := later_two M lM
    obtain ⟨c, d, rfl⟩ := later_two S lS
    simp at hl
    omega
  · obtain ⟨c, d, rfl⟩ := later_two S lS
    have hn : M ≠ [] := ((posD_iff M).1 ((firstD_iff M).1 fM).1).1
    have : M.length ≠ 0 := fun hz => hn (List.length_eq_zero_iff.1 hz)
    simp at hl
    omega
  · exact absurd ⟨plain_zero.1, by rw [plain_zero.2]; decide⟩ hA
  · obtain ⟨h1, _, h3, _⟩ := first_to r hf
    exact absurd ⟨h1, h3⟩ hA
/-- Not a plain number below 60, and its end is not that of minutes and seconds. -/
theorem fail_end (R : List UInt8) (c a b : UInt8) (hA : ¬ (plainD (R ++ [c, a, b]) = true ∧ valM (R ++ [c, a, b]) < 60)) (he : ¬ (c = 109 ∧ laterD [a, b] = true)) : restR (R ++ [c, a, b]) = (0, 3) := by
  rcases rest_inv (R ++ [c, a, b]) with h | ⟨H, M, S, h, lM, lS, pH⟩ | ⟨M, S, h, fM, lS⟩ | h | hf
  · exact h
  · obtain ⟨x, y, rfl⟩ := later_two S lS
    have h' : R ++ [c, a, b] = (H ++ 104 :: M) ++ [109, x, y] := by rw [h]; simp
    have := (tails _ _ _ _ h' rfl).2
    cases this
    exact absurd ⟨rfl, lS⟩ he
  · obtain ⟨x, y, rfl⟩ := later_two S lS
    have := (tails _ _ _ _ h rfl).2
    cases this
    exact absurd ⟨rfl, lS⟩ he
  · rw [h] at hA
    exact absurd ⟨plain_zero.1, by rw [plain_zero.2]; decide⟩ hA
  · obtain ⟨h1, _, h3, _⟩ := first_to _ hf
    exact absurd ⟨h1, h3⟩ hA
/-- Minutes and seconds at the end, and neither plain minutes nor the end of hours and minutes before them. -/
theorem fail_hour (R : List UInt8) (a b : UInt8) (hM : ¬ (plainD R = true ∧ 0 < valM R ∧ valM R < 60)) (hR : ∀ H d e, R = H ++ [104, d, e] → ¬ (laterD [d, e] = true ∧ posD H = true)) : restR (R ++ [109, a, b]) = (0, 3) := by
  have hd : digs (R ++ [109, a, b]) = false := no_m R [a, b] 109 (by decide)
  rcases rest_inv (R ++ [109, a, b]) with h | ⟨H, M, S, h, lM, lS, pH⟩ | ⟨M, S, h, fM, lS⟩ | h | hf
  · exact h
  · obtain ⟨x, y, rfl⟩ := later_two S lS
    obtain ⟨d, e, rfl⟩ := later_two M lM
    have h' : R ++ [109, a, b] = (H ++ [104, d, e]) ++ [109, x, y] := by rw [h]; simp
    exact absurd ⟨lM, pH⟩ (hR H d e (tails _ _ _ _ h' rfl).1)
  · obtain ⟨x, y, rfl⟩ := later_two S lS
    obtain ⟨rfl, _⟩ := tails _ _ _ _ h rfl
    obtain ⟨h1, h2, h3, _⟩ := first_to _ fM
    exact absurd ⟨h1, h2, h3⟩ hM
  · rw [h] at hd
    exact absurd hd (by decide)
  · have := ((posD_iff _).1 ((firstD_iff _).1 hf).1).2.2
    rw [this] at hd
    cases hd
end Go.Proofs.YtnojjmpcgbbofaaDoor
