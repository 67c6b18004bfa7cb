/-
  Plain facts: formatting and parsing of days and of moments are inverse to each other: no program. Condition: the ranges that each theorem names.
-/
import Derived.Test.YtalghfmdaifcgaaDoorTimes
import Derived.Test.YtalghfmdaifcgaaDoorDays
namespace Go.Proofs.YtalghfmdaifcgaaDoor
open Go

/-- What may stand at the place of a pattern's byte p. -/
def okP (p c : UInt8) : Bool := if p = 48 then dig c else c == p
/-- A text has a pattern's form: a zero stands for any digit, every other byte for itself. -/
def fits : List UInt8 → List UInt8 → Bool
  | [], [] => true
  | p :: ps, c :: cs => okP p c && fits ps cs
  | _, _ => false
def dayP : List UInt8 := [48, 48, 48, 48, 45, 48, 48, 45, 48, 48]
def timeP : List UInt8 := [48, 48, 58, 48, 48, 58, 48, 48]
def momP : List UInt8 := [48, 48, 48, 48, 45, 48, 48, 45, 48, 48, 84, 48, 48, 58, 48, 48, 58, 48, 48]

theorem okP_digit (c : UInt8) : okP 48 c = dig c := by unfold okP; rw [if_pos rfl]
theorem okP_other (p c : UInt8) (h : p ≠ 48) : okP p c = (c == p) := by unfold okP; rw [if_neg h]
theorem fits_len : ∀ (p l : List UInt8), fits p l = true → l.length = p.length
  | [], [], _ => rfl
  | p :: ps, c :: cs, h => by
    have := fits_len ps cs (by simp only [fits, Bool.and_eq_true] at h; exact h.2)
    simp [this]
  | [], _ :: _, h => by cases h
  | _ :: _, [], h => by cases h
theorem fits_app : ∀ (p q l m : List UInt8), p.length = l.length → fits (p ++ q) (l ++ m) = (fits p l && fits q m)
  | [], q, [], m, _ => by simp [fits]
  | p :: ps, q, c :: cs, m, h => by
    have := fits_app ps q cs m (by simpa using h)
    simp [fits, this, Bool.and_assoc]
  | [], _, _ :: _, _, h => by cases h
  | _ :: _, _, [], _, h => by cases h
theorem fits_iff : ∀ (p l : List UInt8), fits p l = true ↔ l.length = p.length ∧ ∀ (k : Nat) a c, p[k]? = some a → l[k]? = some c → okP a c = true
  | [], [] => by simp [fits]
  | p :: ps, c :: cs => by
    have ih := fits_iff ps cs
    simp only [fits, Bool.and_eq_true, ih, List.length_cons]
    constructor
    · rintro ⟨h1, h2, h3⟩
      refine ⟨by omega, fun k a b ha hb => ?_⟩
      cases k with
      | zero => cases ha; cases hb; exact h1
      | succ k => exact h3 k a b (by simpa using ha) (by simpa using hb)
    · rintro ⟨h1, h2⟩
      exact ⟨h2 0 p c rfl rfl, by omega, fun k a b ha hb => h2 (k + 1) a b (by simpa using ha) (by simpa using hb)⟩
  | [], c :: cs => by simp [fits]
  | p :: ps, [] => by simp [fits]
theorem fits_not (p l : List UInt8) (k : Nat) (a c : UInt8) (ha : p[k]? = some a) (hc : l[k]? = some c) (h : okP a c = false) : fits p l = false := by
  cases hf : fits p l with
  | false => rfl
  | true => rw [((fits_iff p l).1 hf).2 k a c ha hc] at h; cases h
theorem fits_short (p l : List UInt8) (h : l.length ≠ p.length) : fits p l = false := by
  cases hf : fits p l with
  | false => rfl
  | true => exact absurd (fits_len p l hf) h
theorem timeForm_fits (l : List UInt8) : timeForm l = fits timeP l := by
  by_cases h : l.length = 8
  · rw [Bool.eq_iff_iff, fits_iff]
    constructor
    · intro hf
      refine ⟨h, fun k a c ha hc => ?_⟩
      have ho := (form_at l hf).2 k c hc
      unfold okAt at ho
      match k, ha with
      | 0, ha | 1, ha | 3, ha | 4, ha | 6, ha | 7, ha => cases ha; rw [okP_digit]; rwa [if_neg (by decide)] at ho
      | 2, ha | 5, ha => cases ha; rw [okP_other _ _ (by decide)]; rwa [if_pos (by decide)] at ho
      | k + 8, ha => cases ha
    · rintro ⟨-, hf⟩
      refine form_mk l h fun k c hc => ?_
      have hk : k < 8 := by have := (List.getElem?_eq_some_iff.1 hc).1; omega
      match k, hk with
      | 0, _ => have := hf 0 48 c rfl hc; rwa [okP_digit] at this
      | 1, _ => have := hf 1 48 c rfl hc; rwa [okP_digit] at this
      | 2, _ => have := hf 2 58 c rfl hc; rwa [okP_other _ _ (by decide)] at this
      | 3, _ => have := hf 3 48 c rfl hc; rwa [okP_digit] at this
      | 4, _ => have := hf 4 48 c rfl hc; rwa [okP_digit] at this
      | 5, _ => have := hf 5 58 c rfl hc; rwa [okP_other _ _ (by decide)] at this
      | 6, _ => have := hf 6 48 c rfl hc; rwa [okP_digit] at this
      | 7, _ => have := hf 7 48 c rfl hc; rwa [okP_digit] at this
  · rw [form_len l h, fits_short timeP l h]

/-- The parts are those of a date. -/
def IsDate (y m d : Int) : Prop := 2000 ≤ y ∧ y ≤ 2099 ∧ 1 ≤ m ∧ m ≤ 12 ∧ 1 ≤ d ∧ d ≤ monN (y - 2000).toNat (m - 1).toNat
instance (y m d : Int) : Decidable (IsDate y m d) := by unfold IsDate; infer_instance
/-- The day of a date. -/
def dayOf (y m d : Int) : Int := (befN (y - 2000).toNat (m - 1).toNat : Int) + d - 1
/-- The month of a date, counted from January 2000 on. -/
def monOf (y m : Int) : Nat := 12 * (y - 2000).toNat + (m - 1).toNat
theorem date_in (y m d : Int) (h : IsDate y m d) : monOf y m < 1200 ∧ ∃ n : Nat, dayOf y m d = n ∧ InMon (monOf y m) n ∧ bef (monOf y m) + (d - 1).toNat = n := by
  obtain ⟨h1, h2, h3, h4, h5, h6⟩ := h
  unfold monOf
  refine ⟨by omega, ?_⟩
  have hb := bef_at (y - 2000).toNat (m - 1).toNat (by omega)
  refine ⟨bef (12 * (y - 2000).toNat + (m - 1).toNat) + (d - 1).toNat, ?_, inMon_mk ?_, rfl⟩
  · unfold dayOf
    rw [hb]
    omega
  · unfold mon
    rw [show (12 * (y - 2000).toNat + (m - 1).toNat) / 12 = (y - 2000).toNat by omega, show (12 * (y - 2000).toNat + (m - 1).toNat) % 12 = (m - 1).toNat by omega]
    omega
theorem in_date (i n : Nat) (hi : i < 1200) (h : InMon i n) : IsDate (2000 + i / 12) (1 + i % 12) ((n : Int) - bef i + 1) ∧ dayOf (2000 + i / 12) (1 + i % 12) ((n : Int) - bef i + 1) = n := by
  have hl := inMon_left h
  have h1 := h.1
  have e1 : ((2000 + (i : Int) / 12) - 2000).toNat = i / 12 := by omega
  have e2 : ((1 + (i : Int) % 12) - 1).toNat = i % 12 := by omega
  unfold IsDate dayOf
  rw [e1, e2]
  unfold mon at hl
  unfold bef at *
  omega

def val4 (l : List UInt8) : Nat := valN (l.take 4)
/-- What a text denotes as a day. -/
def dayR (l : List UInt8) : Int × Int :=
  if fits dayP l = true then
    if IsDate (val4 l) (pairN l 5) (pairN l 8) then (dayOf (val4 l) (pairN l 5) (pairN l 8), 0) else (0, 11)
  else (0, 3)
theorem dayR_yes (l : List UInt8) (hf : fits dayP l = true) (hp : IsDate (val4 l) (pairN l 5) (pairN l 8)) : dayR l = (dayOf (val4 l) (pairN l 5) (pairN l 8), 0) := by
  unfold dayR; rw [if_pos hf, if_pos hp]
theorem dayR_date (l : List UInt8) (hf : fits dayP l = true) (hp : ¬ IsDate (val4 l) (pairN l 5) (pairN l 8)) : dayR l = (0, 11) := by
  unfold dayR; rw [if_pos hf, if_neg hp]
theorem dayR_syntax (l : List UInt8) (hf : fits dayP l = false) : dayR l = (0, 3) := by
  unfold dayR; rw [hf]; rfl

/-- A year in four digits. -/
def four (y : Int) : List UInt8 := two (y / 100) ++ two (y % 100)
/-- The text of a date. -/
def dateText (y m d : Int) : List UInt8 := four y ++ [45] ++ two m ++ [45] ++ two d
/-- The text of day n, which lies in month i. -/
def dText (i n : Nat) : List UInt8 := dateText (2000 + i / 12) (1 + i % 12) ((n : Int) - bef i + 1)
theorem two_cells (x : Int) (h : x < 100) : ∃ a b, two x = [a, b] ∧ dig a = true ∧ dig b = true := ⟨_, _, rfl, dig_ofNat _ (by omega), dig_ofNat _ (by omega)⟩
theorem date_form (y m d : Int) (y1 : y < 10000) (m1 : m < 100) (d1 : d < 100) : fits dayP (dateText y m d) = true := by
  obtain ⟨a0, a1, ea, ha, hb⟩ := two_cells (y / 100) (by omega)
  obtain ⟨a2, a3, eb, hc, hd⟩ := two_cells (y % 100) (by omega)
  obtain ⟨a5, a6, ec, he, hf⟩ := two_cells m m1
  obtain ⟨a8, a9, ed, hg, hh⟩ := two_cells d d1
  unfold dateText four dayP
  rw [ea, eb, ec, ed]
  simp [fits, okP, ha, hb, hc, hd, he, hf, hg, hh]
theorem four_val (y : Int) (h0 : 0 ≤ y) (h1 : y < 10000) : valN (four y) = y.toNat := by
  unfold four two valN
  simp only [List.foldl_cons, List.foldl_nil, List.cons_append, List.nil_append]
  rw [ofNat_toNat _ (by omega), ofNat_toNat _ (by omega), ofNat_toNat _ (by omega), ofNat_toNat _ (by omega)]
  omega
theorem date_vals (y m d : Int) (y0 : 0 ≤ y) (y1 : y < 10000) (m1 : m < 100) (d1 : d < 100) : val4 (dateText y m d) = y.toNat ∧ pairN (dateText y m d) 5 = m.toNat ∧ pairN (dateText y m d) 8 = d.toNat :=
  ⟨four_val y y0 y1, two_val m m1, two_val d d1⟩
theorem date_there (y m d : Int) (h : IsDate y m d) : dayR (dateText y m d) = (dayOf y m d, 0) := by
  have hh := h
  obtain ⟨h1, h2, h3, h4, h5, h6⟩ := h
  have hm := (mon_range (y - 2000).toNat (m - 1).toNat).2
  obtain ⟨e1, e2, e3⟩ := date_vals y m d (by omega) (by omega) (by omega) (by omega)
  have e : ((val4 (dateText y m d) : Nat) : Int) = y ∧ ((pairN (dateText y m d) 5 : Nat) : Int) = m ∧ ((pairN (dateText y m d) 8 : Nat) : Int) = d := by omega
  rw [dayR_yes _ (date_form y m d (by omega) (by omega) (by omega)) (by rw [e.1, e.2.1, e.2.2]; exact hh), e.1, e.2.1, e.2.2]
/-- Parsing inverts formatting. -/
theorem day_there (i n : Nat) (hi : i < 1200) (h : InMon i n) : dayR (dText i n) = ((n : Int), 0) := by
  obtain ⟨h1, h2⟩ := in_date i n hi h
  unfold dText
  rw [date_there _ _ _ h1, h2]

theorem ten (l : List UInt8) (h : l.length = 10) : ∃ a0 a1 a2 a3 a4 a5 a6 a7 a8 a9, l = [a0, a1, a2, a3, a4, a5, a6, a7, a8, a9] := by
  match l, h with
  | [a0, a1, a2, a3, a4, a5, a6, a7, a8, a9], _ => exact ⟨a0, a1, a2, a3, a4, a5, a6, a7, a8, a9, rfl⟩
theorem day_parts (l : List UInt8) (h : fits dayP l = true) : ∃ a0 a1 a2 a3 a5 a6 a8 a9, l = [a0, a1] ++ [a2, a3] ++ [45] ++ [a5, a6] ++ [45] ++ [a8, a9] ∧ dig a0 = true ∧ dig a1 = true ∧ dig a2 = true ∧ dig a3 = true ∧ dig a5 = true ∧ dig a6 = true ∧ dig a8 = true ∧ dig a9 = true := by
  obtain ⟨a0, a1, a2, a3, a4, a5, a6, a7, a8, a9, rfl⟩ := ten l (fits_len _ _ h)
  simp [fits, dayP, okP] at h
  obtain ⟨d0, d1, d2, d3, rfl, d5, d6, rfl, d8, d9⟩ := h
  exact ⟨a0, a1, a2, a3, a5, a6, a8, a9, rfl, d0, d1, d2, d3, d5, d6, d8, d9⟩
theorem four_back (a b c d : UInt8) (ha : dig a = true) (hb : dig b = true) (hc : dig c = true) (hd : dig d = true) (y : Int) (hy : y = valN [a, b, c, d]) : four y = [a, b, c, d] := by
  have h1 := (dig_iff a).1 ha
  have h2 := (dig_iff b).1 hb
  have h3 := (dig_iff c).1 hc
  have h4 := (dig_iff d).1 hd
  have e : valN [a, b, c, d] = valN [a, b] * 100 + valN [c, d] := by
    simp [valN]
    omega
  have l : valN [c, d] < 100 := by rw [val_pair]; omega
  unfold four
  rw [two_back a b ha hb _ (by omega), two_back c d hc hd _ (by omega)]
  rfl
/-- An accepted text is that of its result. -/
theorem date_back (l : List UInt8) (h : (dayR l).2 = 0) : ∃ i n : Nat, i < 1200 ∧ InMon i n ∧ dayR l = ((n : Int), 0) ∧ dText i n = l := by
  cases hf : fits dayP l with
  | false => rw [dayR_syntax l hf] at h; cases h
  | true =>
    by_cases hp : IsDate (val4 l) (pairN l 5) (pairN l 8)
    · obtain ⟨hi, n, hn, hm, hk⟩ := date_in _ _ _ hp
      refine ⟨_, n, hi, hm, by rw [dayR_yes l hf hp, hn], ?_⟩
      obtain ⟨a0, a1, a2, a3, a5, a6, a8, a9, rfl, d0, d1, d2, d3, d5, d6, d8, d9⟩ := day_parts l hf
      obtain ⟨p1, p2, p3, p4, p5, p6⟩ := hp
      unfold dText dateText
      have e1 : (2000 + ((monOf (val4 ([a0, a1] ++ [a2, a3] ++ [45] ++ [a5, a6] ++ [45] ++ [a8, a9])) (pairN ([a0, a1] ++ [a2, a3] ++ [45] ++ [a5, a6] ++ [45] ++ [a8, a9]) 5) : Nat) : Int) / 12) = valN [a0, a1, a2, a3] := by
        unfold monOf at *
        show _ = ((val4 ([a0, a1] ++ [a2, a3] ++ [45] ++ [a5, a6] ++ [45] ++ [a8, a9]) : Nat) : Int)
        omega
      have e2 : (1 + ((monOf (val4 ([a0, a1] ++ [a2, a3] ++ [45] ++ [a5, a6] ++ [45] ++ [a8, a9])) (pairN ([a0, a1] ++ [a2, a3] ++ [45] ++ [a5, a6] ++ [45] ++ [a8, a9]) 5) : Nat) : Int) % 12) = valN [a5, a6] := by
        unfold monOf at *
        show _ = ((pairN ([a0, a1] ++ [a2, a3] ++ [45] ++ [a5, a6] ++ [45] ++ [a8, a9]) 5 : Nat) : Int)
        omega
      have e3 : ((n : Int) - bef (monOf (val4 ([a0, a1] ++ [a2, a3] ++ [45] ++ [a5, a6] ++ [45] ++ [a8, a9])) (pairN ([a0, a1] ++ [a2, a3] ++ [45] ++ [a5, a6] ++ [45] ++ [a8, a9]) 5)) + 1) = valN [a8, a9] := by
        show _ = ((pairN ([a0, a1] ++ [a2, a3] ++ [45] ++ [a5, a6] ++ [45] ++ [a8, a9]) 8 : Nat) : Int)
        omega
      rw [four_back a0 a1 a2 a3 d0 d1 d2 d3 _ e1, two_back a5 a6 d5 d6 _ e2, two_back a8 a9 d8 d9 _ e3]
      rfl
    · rw [dayR_date l hf hp] at h; cases h
theorem dText_len (i n : Nat) : (dText i n).length = 10 := rfl
end Go.Proofs.YtalghfmdaifcgaaDoor
