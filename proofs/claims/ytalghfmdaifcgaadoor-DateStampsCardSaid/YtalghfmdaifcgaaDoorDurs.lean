/-
  Plain facts: formatting and parsing of durations are inverse to each other; times compare as their texts. Condition: the ranges that each theorem names.
-/
import Derived.Test.YtalghfmdaifcgaaDoorTimes
namespace Go.Proofs.YtalghfmdaifcgaaDoor
open Go

theorem dec_one (x : Int) (h1 : x < 10) : dec x = [UInt8.ofNat (48 + x.toNat)] := by
  unfold dec
  rw [Lib.decDigits_one (by omega)]
theorem dec_two' (x : Int) (h0 : 10 ≤ x) (h1 : x < 100) : dec x = two x := by
  unfold dec two
  rw [Lib.decDigits_two (by omega) (by omega)]
theorem dec_digs (x : Int) (h0 : 0 ≤ x) (h1 : x < 100) : digs (dec x) = true := by
  by_cases h : x < 10
  · rw [dec_one x h]
    unfold digs
    simp only [List.all_cons, List.all_nil, Bool.and_true]
    exact dig_ofNat _ (by omega)
  · rw [dec_two' x (by omega) h1]
    exact two_digs x h1
theorem dec_val (x : Int) (h0 : 0 ≤ x) (h1 : x < 100) : valN (dec x) = x.toNat := by
  by_cases h : x < 10
  · rw [dec_one x h]
    unfold valN
    simp only [List.foldl_cons, List.foldl_nil]
    rw [ofNat_toNat _ (by omega)]
    omega
  · rw [dec_two' x (by omega) h1]
    exact two_val x h1
theorem dec_length (x : Int) (h1 : x < 100) : (dec x).length ≤ 2 := by
  by_cases h : x < 10
  · rw [dec_one x h]; exact Nat.le_succ 1
  · rw [dec_two' x (by omega) h1]; exact Nat.le_refl 2
theorem ofNat_ne (x : Nat) (h0 : 1 ≤ x) (h : x < 10) : UInt8.ofNat (48 + x) ≠ 48 := by
  intro he
  have := congrArg UInt8.toNat he
  rw [ofNat_toNat x h] at this
  have h48 : (48 : UInt8).toNat = 48 := rfl
  omega
theorem dec_pos (x : Int) (h0 : 1 ≤ x) (h1 : x < 100) : posD (dec x) = true := by
  rw [posD_iff]
  refine ⟨?_, ?_, dec_digs x (by omega) h1⟩
  · by_cases h : x < 10
    · rw [dec_one x h]; simp
    · rw [dec_two' x (by omega) h1]; simp [two]
  · by_cases h : x < 10
    · rw [dec_one x h]
      intro he
      exact ofNat_ne x.toNat (by omega) (by omega) (Option.some.inj he)
    · rw [dec_two' x (by omega) h1]
      intro he
      exact ofNat_ne (x.toNat / 10) (by omega) (by omega) (Option.some.inj he)
theorem dec_back (l : List UInt8) (h : posD l = true) (hl : l.length ≤ 2) (x : Int) (hx : x = valN l) : dec x = l ∧ 1 ≤ x := by
  obtain ⟨hn, h0, hd⟩ := (posD_iff l).1 h
  match l, hl with
  | [a], _ =>
    have da : dig a = true := by simpa [digs] using hd
    have h1 := (dig_iff a).1 da
    have hv : valN [a] = a.toNat - 48 := by simp [valN]
    have hz : a.toNat ≠ 48 := fun he => h0 (by rw [show a = 48 from UInt8.toNat_inj.1 he]; rfl)
    rw [dec_one x (by omega), show 48 + x.toNat = 48 + (a.toNat - 48) by omega, ofNat_back a da]
    exact ⟨rfl, by omega⟩
  | [a, b], _ =>
    have dd : dig a = true ∧ dig b = true := by simpa [digs] using hd
    have h1 := (dig_iff a).1 dd.1
    have h2 := (dig_iff b).1 dd.2
    have hz : a.toNat ≠ 48 := fun he => h0 (by rw [show a = 48 from UInt8.toNat_inj.1 he]; rfl)
    have hv := val_pair a b
    rw [dec_two' x (by omega) (by omega)]
    exact ⟨two_back a b dd.1 dd.2 x hx, by omega⟩
theorem two_of (l : List UInt8) (h : laterD l = true) (x : Int) (hx : x = valN l) : two x = l := by
  obtain ⟨h2, hd, _⟩ := (laterD_iff l).1 h
  match l, h2 with
  | [a, b], _ =>
    have dd : dig a = true ∧ dig b = true := by simpa [digs] using hd
    exact two_back a b dd.1 dd.2 x hx
theorem not_in (c : UInt8) (l : List UInt8) (h : digs l = true) (hc : dig c = false) : c ∉ l := by
  intro hm
  unfold digs at h
  rw [List.all_eq_true] at h
  rw [h c hm] at hc
  cases hc
theorem two_later (x : Int) (h1 : x < 60) : laterD (two x) = true := by
  rw [laterD_iff]
  refine ⟨rfl, two_digs x (by omega), ?_⟩
  rw [two_val x (by omega)]
  omega
theorem suf (r : List UInt8) : durR (r ++ [115]) = restR r := by
  unfold durR
  rw [if_pos (by rw [List.isSuffixOf_iff_suffix]; exact List.suffix_append _ _)]
  simp

theorem rest_h (H M S : List UInt8) (hH : digs H = true) (hM : digs M = true) : restR (H ++ 104 :: (M ++ 109 :: S)) = if laterD M = true ∧ laterD S = true ∧ posD H = true then (if 2 < H.length then (0, 2) else ((valN H : Int) * 3600 + (valN M : Int) * 60 + (valN S : Int), 0)) else (0, 3) := by
  obtain ⟨e1, e2⟩ := take_pre 104 (M ++ 109 :: S) H (not_in 104 H hH (by decide))
  obtain ⟨e3, e4⟩ := take_pre 109 S M (not_in 109 M hM (by decide))
  unfold restR hoursR
  rw [if_pos (by simp), e1, e2, e3, e4]
  simp
theorem rest_m (M S : List UInt8) (hM : digs M = true) (hS : digs S = true) : restR (M ++ 109 :: S) = minutesR M S := by
  obtain ⟨e1, e2⟩ := take_pre 109 S M (not_in 109 M hM (by decide))
  have hn : (104 : UInt8) ∉ M ++ 109 :: S := by
    have h1 := not_in 104 M hM (by decide)
    have h2 := not_in 104 S hS (by decide)
    simp [h1, h2]
  unfold restR
  rw [if_neg hn, if_pos (by simp), e1, e2]
theorem rest_s (r : List UInt8) (hr : digs r = true) (h0 : r ≠ [48]) : restR r = if firstD r = true then ((valN r : Int), 0) else (0, 3) := by
  unfold restR
  rw [if_neg (not_in 104 r hr (by decide)), if_neg (not_in 109 r hr (by decide)), if_neg h0]

/-- Parsing inverts formatting. -/
theorem dur_there (n : Int) (h0 : 0 ≤ n) (h1 : n ≤ 359999) : durR (durText n) = (n, 0) := by
  by_cases hh : 3600 ≤ n
  · have e : durText n = (dec (n / 3600) ++ 104 :: (two (n % 3600 / 60) ++ 109 :: two (n % 60))) ++ [115] := by
      unfold durText; rw [if_pos hh]; simp
    rw [e, suf, rest_h _ _ _ (dec_digs _ (by omega) (by omega)) (two_digs _ (by omega)), if_pos ⟨two_later _ (by omega), two_later _ (by omega), dec_pos _ (by omega) (by omega)⟩,
      if_neg (by have := dec_length (n / 3600) (by omega); omega), dec_val _ (by omega) (by omega), two_val _ (by omega), two_val _ (by omega)]
    congr 1
    omega
  · by_cases hm : 60 ≤ n
    · have e : durText n = (dec (n % 3600 / 60) ++ 109 :: two (n % 60)) ++ [115] := by
        unfold durText; rw [if_neg hh, if_pos hm]; simp
      rw [e, suf, rest_m _ _ (dec_digs _ (by omega) (by omega)) (two_digs _ (by omega))]
      unfold minutesR
      rw [if_pos ⟨(firstD_iff _).2 ⟨dec_pos _ (by omega) (by omega), dec_length _ (by omega), by rw [dec_val _ (by omega) (by omega)]; omega⟩, two_later _ (by omega)⟩, dec_val _ (by omega) (by omega), two_val _ (by omega)]
      congr 1
      omega
    · have e : durText n = dec (n % 60) ++ [115] := by
        unfold durText; rw [if_neg hh, if_neg hm]
      rw [e, suf]
      by_cases hz : n = 0
      · subst hz
        rw [dec_one _ (by omega)]
        decide
      · have hp := dec_pos (n % 60) (by omega) (by omega)
        rw [rest_s _ (dec_digs _ (by omega) (by omega)) (fun he => ((posD_iff _).1 hp).2.1 (by rw [he]; rfl)),
          if_pos ((firstD_iff _).2 ⟨hp, dec_length _ (by omega), by rw [dec_val _ (by omega) (by omega)]; omega⟩), dec_val _ (by omega) (by omega)]
        congr 1
        omega

theorem suffix_split (l : List UInt8) (h : List.isSuffixOf [115] l = true) : ∃ r, l = r ++ [115] ∧ l.dropLast = r := by
  rw [List.isSuffixOf_iff_suffix] at h
  obtain ⟨r, rfl⟩ := h
  exact ⟨r, rfl, by simp⟩
/-- An accepted text is the text of its result. -/
theorem dur_back (l : List UInt8) (h : (durR l).2 = 0) : 0 ≤ (durR l).1 ∧ (durR l).1 ≤ 359999 ∧ durText (durR l).1 = l := by
  cases hs : List.isSuffixOf [115] l with
  | false =>
    have e : durR l = (0, 3) := by unfold durR; rw [hs]; rfl
    rw [e] at h
    cases h
  | true =>
    obtain ⟨r, rfl, _⟩ := suffix_split l hs
    rw [suf] at h ⊢
    by_cases hh : 104 ∈ r
    · obtain ⟨H, T, rfl, hn, e1, e2⟩ := split_at 104 r hh
      have e : restR (H ++ 104 :: T) = hoursR H T := by unfold restR; rw [if_pos hh, e1, e2]
      rw [e] at h ⊢
      by_cases hc : 109 ∈ T ∧ laterD (before 109 T) = true ∧ laterD (after 109 T) = true ∧ posD H = true
      · by_cases h2 : 2 < H.length
        · have e : hoursR H T = (0, 2) := by unfold hoursR; rw [if_pos hc, if_pos h2]
          rw [e] at h
          cases h
        · have e : hoursR H T = ((valN H : Int) * 3600 + (valN (before 109 T) : Int) * 60 + (valN (after 109 T) : Int), 0) := by unfold hoursR; rw [if_pos hc, if_neg h2]
          rw [e]
          obtain ⟨hT, lM, lS, pH⟩ := hc
          obtain ⟨M, S, rfl, hn2, e3, e4⟩ := split_at 109 T hT
          rw [e3] at lM
          rw [e4] at lS
          rw [e3, e4]
          obtain ⟨dH, oH⟩ := dec_back H pH (by omega) (valN H) rfl
          have hH : valN H ≤ 99 := by
            have q1 := valN_lt H ((posD_iff H).1 pH).2.2
            have q2 : 10 ^ H.length ≤ 10 ^ 2 := Nat.pow_le_pow_right (by decide) (by omega)
            omega
          have vM := ((laterD_iff M).1 lM).2.2
          have vS := ((laterD_iff S).1 lS).2.2
          simp only
          refine ⟨by omega, by omega, ?_⟩
          unfold durText
          rw [if_pos (by omega), show ((valN H : Int) * 3600 + (valN M : Int) * 60 + (valN S : Int)) / 3600 = valN H by omega, dH, two_of M lM _ (by omega), two_of S lS _ (by omega)]
          simp
      · have e : hoursR H T = (0, 3) := by unfold hoursR; rw [if_neg hc]
        rw [e] at h
        cases h
    · by_cases hm : 109 ∈ r
      · obtain ⟨M, S, rfl, hn, e1, e2⟩ := split_at 109 r hm
        have e : restR (M ++ 109 :: S) = minutesR M S := by unfold restR; rw [if_neg hh, if_pos hm, e1, e2]
        rw [e] at h ⊢
        by_cases hc : firstD M = true ∧ laterD S = true
        · have e : minutesR M S = ((valN M : Int) * 60 + (valN S : Int), 0) := by unfold minutesR; rw [if_pos hc]
          rw [e]
          obtain ⟨pM, lM, vM⟩ := (firstD_iff M).1 hc.1
          obtain ⟨dM, oM⟩ := dec_back M pM lM (valN M) rfl
          have vS := ((laterD_iff S).1 hc.2).2.2
          simp only
          refine ⟨by omega, by omega, ?_⟩
          unfold durText
          rw [if_neg (by omega), if_pos (by omega), show ((valN M : Int) * 60 + (valN S : Int)) % 3600 / 60 = valN M by omega, dM, two_of S hc.2 _ (by omega)]
          simp
        · have e : minutesR M S = (0, 3) := by unfold minutesR; rw [if_neg hc]
          rw [e] at h
          cases h
      · by_cases h0 : r = [48]
        · subst h0
          have e : restR [48] = (0, 0) := by decide
          rw [e]
          refine ⟨by decide, by decide, ?_⟩
          unfold durText
          rw [if_neg (by decide), if_neg (by decide), dec_one _ (by decide)]
          rfl
        · by_cases hf : firstD r = true
          · have e : restR r = ((valN r : Int), 0) := by unfold restR; rw [if_neg hh, if_neg hm, if_neg h0, if_pos hf]
            rw [e]
            obtain ⟨pr, lr, vr⟩ := (firstD_iff r).1 hf
            obtain ⟨dr, _⟩ := dec_back r pr lr (valN r) rfl
            simp only
            refine ⟨by omega, by omega, ?_⟩
            unfold durText
            rw [if_neg (by omega), if_neg (by omega), show (valN r : Int) % 60 = valN r by omega, dr]
          · have e : restR r = (0, 3) := by unfold restR; rw [if_neg hh, if_neg hm, if_neg h0, if_neg hf]
            rw [e] at h
            cases h
end Go.Proofs.YtalghfmdaifcgaaDoor
