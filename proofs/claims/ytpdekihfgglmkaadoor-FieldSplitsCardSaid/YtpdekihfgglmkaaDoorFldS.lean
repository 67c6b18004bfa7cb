/-
  Plain facts about lines of quoted fields and texts of lines: joining and splitting are inverse: no program. Condition: none beyond each theorem's own hypotheses.
-/
import Derived.Test.YtpdekihfgglmkaaDoorFld
namespace Go.Proofs.YtpdekihfgglmkaaDoor
open Go

/-! ### Texts of lines -/
/-- The lines that end before the end of these bytes, and what stands behind the last of them. -/
def cutL (l : List UInt8) : List (List UInt8) × List UInt8 := l.foldl (fun s b => if b == 10 then (s.1 ++ [s.2], []) else (s.1, s.2 ++ [b])) ([], [])
/-- The text of lines. -/
def textL (ls : List (List UInt8)) : List UInt8 := ls.flatMap fun l => l ++ [10]
theorem cutL_nil : cutL [] = ([], []) := rfl
theorem cutL_feed (l : List UInt8) : cutL (l ++ [10]) = ((cutL l).1 ++ [(cutL l).2], []) := by unfold cutL; rw [List.foldl_append]; rfl
theorem cutL_byte (l : List UInt8) (b : UInt8) (h : b ≠ 10) : cutL (l ++ [b]) = ((cutL l).1, (cutL l).2 ++ [b]) := by
  unfold cutL
  rw [List.foldl_append]
  simp [h]
theorem cutL_join : ∀ (n : Nat) (l : List UInt8), l.length = n → textL (cutL l).1 ++ (cutL l).2 = l
  | 0, l, h => by rw [List.length_eq_zero_iff.1 h]; rfl
  | n + 1, l, h => by
    rcases List.eq_nil_or_concat l with rfl | ⟨q, b, rfl⟩
    · simp at h
    · rw [List.concat_eq_append] at *
      have ih := cutL_join n q (by simpa using h)
      by_cases hb : b = 10
      · subst hb
        rw [cutL_feed]
        conv => rhs; rw [← ih]
        simp [textL]
      · rw [cutL_byte q b hb]
        conv => rhs; rw [← ih]
        simp
theorem cutL_line : ∀ (l : List UInt8) (o : List (List UInt8)) (c : List UInt8), (∀ b ∈ l, b ≠ 10) → l.foldl (fun s b => if b == 10 then (s.1 ++ [s.2], []) else (s.1, s.2 ++ [b])) (o, c) = (o, c ++ l)
  | [], _, _, _ => by simp
  | b :: l, o, c, h => by
    have hb : b ≠ 10 := h b (by simp)
    have hb' : (b == 10) = false := by simpa using hb
    rw [List.foldl_cons, hb']
    have ih := cutL_line l o (c ++ [b]) (fun x hx => h x (by simp [hx]))
    rw [List.append_assoc] at ih
    exact ih
theorem cutL_text : ∀ (ls : List (List UInt8)) (o : List (List UInt8)), (∀ l ∈ ls, ∀ b ∈ l, b ≠ 10) → (textL ls).foldl (fun s b => if b == 10 then (s.1 ++ [s.2], []) else (s.1, s.2 ++ [b])) (o, ([] : List UInt8)) = (o ++ ls, [])
  | [], o, _ => by simp [textL]
  | l :: ls, o, h => by
    have e : textL (l :: ls) = l ++ 10 :: textL ls := by simp [textL]
    rw [e, List.foldl_append, cutL_line l o [] (h l (by simp)), List.foldl_cons]
    have ih := cutL_text ls (o ++ [l]) (fun x hx => h x (by simp [hx]))
    simp at ih ⊢
    exact ih
theorem lines_text (ls : List (List UInt8)) (h : ∀ l ∈ ls, ∀ b ∈ l, b ≠ 10) : cutL (textL ls) = (ls, []) := by
  have := cutL_text ls [] h
  simpa [cutL] using this
theorem text_end (ls : List (List UInt8)) (h : ls ≠ []) : (textL ls).getLast? = some 10 := by
  rcases List.eq_nil_or_concat ls with rfl | ⟨q, b, rfl⟩
  · exact absurd rfl h
  · simp [textL, List.concat_eq_append]

/-! ### Lines of fields -/
/-- The line of a list. -/
def lineL : List (List UInt8) → List UInt8
  | [] => []
  | x :: l => match l with
    | [] => quoteL x
    | _ :: _ => quoteL x ++ 44 :: lineL l
/-- How far the bytes reach up to the double quote that closes them, and over it. -/
def qend : List UInt8 → Nat
  | [] => 0
  | c :: r => if c = 34 then 1 else if c = 92 then (match r with
    | [] => 1
    | _ :: q => 2 + qend q) else 1 + qend r
/-- How many bytes the field takes that stands first. -/
def endL : List UInt8 → Nat
  | [] => 0
  | c :: r => if c = 34 then 1 + qend r else ((c :: r).takeWhile (· != 44)).length
/-- What a line of at most n fields is read as: the list and the number of the error. -/
def splitL : Nat → List UInt8 → List (List UInt8) × Int
  | 0, _ => ([], 5)
  | n + 1, l => match unq (l.take (endL l)) with
    | none => ([], 3)
    | some f => match l.drop (endL l) with
      | [] => ([f], 0)
      | c :: r => if c = 44 then (if (splitL n r).2 = 0 then (f :: (splitL n r).1, 0) else ([], (splitL n r).2)) else ([], 3)
theorem qend_34 (r : List UInt8) : qend (34 :: r) = 1 := by rw [qend.eq_def]; simp
theorem qend_92 (d : UInt8) (q : List UInt8) : qend (92 :: d :: q) = 2 + qend q := by rw [qend.eq_def]; simp
theorem qend_other (c : UInt8) (r : List UInt8) (h1 : c ≠ 34) (h2 : c ≠ 92) : qend (c :: r) = 1 + qend r := by rw [qend.eq_def]; simp [h1, h2]
theorem qend_esc (c : UInt8) (r : List UInt8) : qend (esc c ++ r) = (esc c).length + qend r := by
  have hh : ∀ n, n < 16 → hexD n ≠ 34 ∧ hexD n ≠ 92 := by
    intro n h
    have := hexD_nat n h
    constructor <;> (intro e; rw [e] at this; revert this; split <;> simp <;> omega)
  have hc := c.toNat_lt
  unfold esc
  split
  · have h1 := hh (c.toNat / 16) (by omega)
    have h2 := hh (c.toNat % 16) (by omega)
    show qend (92 :: 120 :: hexD (c.toNat / 16) :: hexD (c.toNat % 16) :: r) = _
    rw [qend_92, qend_other _ _ h1.1 h1.2, qend_other _ _ h2.1 h2.2]
    simp
    omega
  · split
    · show qend (92 :: c :: r) = _
      rw [qend_92]
      simp
    · next h2 =>
      simp at h2
      show qend (c :: r) = _
      rw [qend_other c r h2.1 h2.2]
      simp
theorem qend_inner : ∀ (l r : List UInt8), qend (inner l ++ 34 :: r) = (inner l).length + 1
  | [], r => by
    show qend (34 :: r) = 0 + 1
    rw [qend_34]
  | c :: l, r => by
    have e : inner (c :: l) = esc c ++ inner l := by simp [inner]
    rw [e, List.append_assoc, qend_esc, qend_inner l r, List.length_append]
    omega
theorem plain_head {l : List UInt8} (h : plainB l = true) : ∃ c r, l = c :: r ∧ c ≠ 34 := by
  unfold plainB at h
  rw [Bool.and_eq_true, Bool.and_eq_true, Bool.and_eq_true] at h
  have ha := h.1.1.1
  rw [List.all_eq_true] at ha
  cases l with
  | nil => simp at h
  | cons c r =>
    refine ⟨c, r, rfl, ?_⟩
    have := ha c (by simp)
    intro e
    subst e
    simp [pln] at this
theorem end_quote (x r : List UInt8) (hr : r = [] ∨ ∃ q, r = 44 :: q) : endL (quoteL x ++ r) = (quoteL x).length := by
  unfold quoteL
  by_cases h : plainB x = true
  · rw [if_pos h]
    obtain ⟨c, t, rfl, hc⟩ := plain_head h
    have hall : ∀ a ∈ c :: t, (a != 44) = true := by
      unfold plainB at h
      rw [Bool.and_eq_true, Bool.and_eq_true, Bool.and_eq_true] at h
      have ha := h.1.1.1
      rw [List.all_eq_true] at ha
      intro a hm
      have := ha a hm
      simp only [bne_iff_ne]
      intro e
      subst e
      simp [pln] at this
    show endL (c :: (t ++ r)) = _
    rw [endL.eq_def]
    simp only []
    rw [if_neg hc, ← List.cons_append, List.takeWhile_append_of_pos hall]
    rcases hr with rfl | ⟨q, rfl⟩ <;> simp
  · rw [if_neg h]
    show endL (34 :: (inner x ++ [34] ++ r)) = _
    rw [endL.eq_def]
    simp only [if_true]
    rw [List.append_assoc]
    show 1 + qend (inner x ++ 34 :: r) = _
    rw [qend_inner]
    simp
    omega
/-- Splitting inverts joining. -/
theorem split_line : ∀ (l : List (List UInt8)) (n : Nat), l ≠ [] → l.length ≤ n → splitL n (lineL l) = (l, 0)
  | [], _, h, _ => absurd rfl h
  | [x], n + 1, _, _ => by
    have e := end_quote x [] (Or.inl rfl)
    rw [List.append_nil] at e
    have e1 : lineL [x] = quoteL x := rfl
    rw [e1]
    unfold splitL
    rw [e, List.take_length, unq_quote, List.drop_length]
  | x :: y :: l, n + 1, _, h => by
    have e := end_quote x (44 :: lineL (y :: l)) (Or.inr ⟨_, rfl⟩)
    have e1 : lineL (x :: y :: l) = quoteL x ++ 44 :: lineL (y :: l) := rfl
    have ih := split_line (y :: l) n (by simp) (by simp at h ⊢; omega)
    rw [e1]
    unfold splitL
    rw [e, List.take_left' rfl, unq_quote, List.drop_left' rfl]
    simp [ih]
/-- Joining inverts splitting. -/
theorem line_split : ∀ (n : Nat) (l : List UInt8) (o : List (List UInt8)), splitL n l = (o, 0) → lineL o = l ∧ o ≠ [] ∧ o.length ≤ n
  | 0, l, o, h => by simp [splitL] at h
  | n + 1, l, o, h => by
    unfold splitL at h
    cases hu : unq (l.take (endL l)) with
    | none => rw [hu] at h; simp at h
    | some f =>
      rw [hu] at h
      have hq := quote_unq _ _ hu
      have ht := List.take_append_drop (endL l) l
      simp only [] at h
      cases hd : l.drop (endL l) with
      | nil =>
        rw [hd] at h ht
        simp at h
        subst h
        refine ⟨?_, by simp, by simp⟩
        rw [List.append_nil] at ht
        show quoteL f = l
        rw [hq, ht]
      | cons c r =>
        rw [hd] at h ht
        simp only [] at h
        split at h
        · next hc =>
          split at h
          · next he =>
            obtain ⟨i1, i2, i3⟩ := line_split n r (splitL n r).1 (by rw [← he])
            have ho := (Prod.mk.inj h).1
            subst ho
            refine ⟨?_, by simp, by simp; omega⟩
            have : lineL (f :: (splitL n r).1) = quoteL f ++ 44 :: lineL (splitL n r).1 := by
              cases hs : (splitL n r).1 with
              | nil => exact absurd hs i2
              | cons _ _ => rfl
            rw [this, i1, hq, ← hc]
            exact ht
          · next he => exact absurd (Prod.mk.inj h).2 he
        · simp at h
theorem split_err : ∀ (n : Nat) (l : List UInt8), (splitL n l).2 = 0 ∨ ((splitL n l).1 = [] ∧ ((splitL n l).2 = 3 ∨ (splitL n l).2 = 5))
  | 0, l => Or.inr ⟨rfl, Or.inr rfl⟩
  | n + 1, l => by
    unfold splitL
    split
    · exact Or.inr ⟨rfl, Or.inl rfl⟩
    · split
      · exact Or.inl rfl
      · next r _ =>
        split
        · split
          · exact Or.inl rfl
          · next he =>
            rcases split_err n r with h | h
            · exact absurd h he
            · exact Or.inr ⟨rfl, h.2⟩
        · exact Or.inr ⟨rfl, Or.inl rfl⟩
end Go.Proofs.YtpdekihfgglmkaaDoor
