/-
  Plain facts about the decimal form of an integer of 64 bits, about the texts that denote one, and about prices: no program. Condition: none beyond each theorem's own hypotheses.
-/
import Derived.Test.YtaglpfilopcniaaDoorDigits
import Derived.Lib.AtoiAllCases
namespace Go.Proofs.YtaglpfilopcniaaDoor
open Go

/-- Digits without leading zeros, at least one. -/
def nat (l : List UInt8) : Bool := l == [48] || (!l.isEmpty && l.head? != some 48 && digs l)
/-- What stands behind a minus sign, if there is one. -/
def body (s : List UInt8) : List UInt8 := Lib.trimPrefix s [45]
/-- Does the text begin with a minus sign? -/
def neg (s : List UInt8) : Bool := s.head? == some 45
/-- The integer that a text of the right form denotes. -/
def sgn (s : List UInt8) : Int := if neg s then -(valN (body s) : Int) else (valN (body s) : Int)
/-- The form of an integer of any size. -/
def formed (s : List UInt8) : Bool := nat (body s) && !(s == [45, 48])
/-- Is it an integer of 64 bits? -/
def fits (v : Int) : Bool := decide (-9223372036854775808 ≤ v ∧ v ≤ 9223372036854775807)
/-- What a text is read as: the integer and the number of the error. -/
def numR (s : List UInt8) : Int × Int := if formed s then (if fits (sgn s) then (sgn s, 0) else (0, 2)) else (0, 3)

theorem fits_iff (v : Int) : fits v = true ↔ -9223372036854775808 ≤ v ∧ v ≤ 9223372036854775807 := by unfold fits; exact decide_eq_true_iff
theorem numR_ok {s : List UInt8} (h : formed s = true) (k : fits (sgn s) = true) : numR s = (sgn s, 0) := by unfold numR; rw [if_pos h, if_pos k]
theorem numR_range {s : List UInt8} (h : formed s = true) (k : fits (sgn s) = false) : numR s = (0, 2) := by unfold numR; rw [if_pos h, if_neg (by simp [k])]
theorem numR_syntax {s : List UInt8} (h : formed s = false) : numR s = (0, 3) := by unfold numR; rw [if_neg (by simp [h])]
theorem numR_bounds (s : List UInt8) : -9223372036854775808 ≤ (numR s).1 ∧ (numR s).1 ≤ 9223372036854775807 := by
  unfold numR
  split
  · split
    · next h => exact (fits_iff _).1 h
    · decide
  · decide

theorem body_neg (l : List UInt8) : body (45 :: l) = l := by simp [body, Lib.trimPrefix, Lib.hasPrefix]
theorem body_pos (s : List UInt8) (h : neg s = false) : body s = s := by
  cases s with
  | nil => rfl
  | cons c l =>
    have hc : c ≠ 45 := by simpa [neg] using h
    simp [body, Lib.trimPrefix, Lib.hasPrefix, Ne.symm hc]
theorem neg_split (s : List UInt8) (h : neg s = true) : s = 45 :: body s := by
  cases s with
  | nil => simp [neg] at h
  | cons c l =>
    have hc : c = 45 := by simpa [neg] using h
    subst hc
    rw [body_neg]

theorem nat_cases {l : List UInt8} (h : nat l = true) : l = [48] ∨ (∃ c r, l = c :: r ∧ c ≠ 48 ∧ digs l = true) := by
  unfold nat at h
  rw [Bool.or_eq_true] at h
  rcases h with h | h
  · exact Or.inl (by simpa using h)
  · cases l with
    | nil => simp at h
    | cons c r =>
      simp at h
      exact Or.inr ⟨c, r, rfl, by simpa using h.1, by simpa using h.2⟩
theorem nat_digs {l : List UInt8} (h : nat l = true) : digs l = true := by
  rcases nat_cases h with rfl | ⟨c, r, rfl, _, hd⟩
  · decide
  · exact hd
theorem nat_ne {l : List UInt8} (h : nat l = true) : l ≠ [] := by
  rcases nat_cases h with rfl | ⟨c, r, rfl, _, hd⟩ <;> simp
theorem nat_head {l : List UInt8} (h : nat l = true) : ∃ c r, l = c :: r ∧ 48 ≤ c.toNat ∧ c.toNat ≤ 57 := by
  have hd := nat_digs h
  cases l with
  | nil => exact absurd rfl (nat_ne h)
  | cons c r =>
    have : dig c = true := by simp [digs] at hd; exact hd.1
    exact ⟨c, r, rfl, (dig_iff c).1 this⟩

/-! ### The library's reader at digits -/
theorem fold_le : ∀ (l : List UInt8) (a : Nat), a ≤ l.foldl (fun n c => n * 10 + (c.toNat - 48)) a
  | [], a => Nat.le_refl _
  | c :: l, a => by
    rw [List.foldl_cons]
    exact Nat.le_trans (by omega) (fold_le l _)
theorem parseUint_digs : ∀ (l : List UInt8) (a : Nat), digs l = true → a < 18446744073709551616 →
    Lib.parseUint10 a l = if l.foldl (fun n c => n * 10 + (c.toNat - 48)) a < 18446744073709551616 then .ok (l.foldl (fun n c => n * 10 + (c.toNat - 48)) a) else .range
  | [], a, _, ha => by simp [Lib.parseUint10, ha]
  | c :: l, a, h, ha => by
    have hl : dig c = true ∧ digs l = true := by simpa [digs] using h
    have hc := (dig_iff c).1 hl.1
    rw [Lib.parseUint10, if_pos hc, List.foldl_cons]
    have hm := fold_le l (a * 10 + (c.toNat - 48))
    by_cases h1 : 1844674407370955162 ≤ a
    · rw [if_pos h1, if_neg (by omega)]
    · rw [if_neg h1]
      by_cases h2 : 18446744073709551616 ≤ a * 10 + (c.toNat - 48)
      · rw [if_pos h2, if_neg (by omega)]
      · rw [if_neg h2]
        exact parseUint_digs l _ hl.2 (by omega)
theorem parseMag_digs (l : List UInt8) (h : nat l = true) : Lib.parseMag l = if valN l < 18446744073709551616 then .ok (valN l) else .range := by
  unfold Lib.parseMag
  rw [if_neg (nat_ne h), parseUint_digs l 0 (nat_digs h) (by decide)]
  rfl
theorem atoi_formed (s : List UInt8) (h : formed s = true) : Lib.atoiAll s = if fits (sgn s) then .ok (sgn s) else .range := by
  have hn : nat (body s) = true := by unfold formed at h; rw [Bool.and_eq_true] at h; exact h.1
  unfold sgn fits
  by_cases hg : neg s = true
  · rw [if_pos hg]
    have e := neg_split s hg
    rw [e, Lib.atoiAll_minus, body_neg, parseMag_digs _ hn]
    generalize valN (body s) = v
    by_cases h1 : v < 18446744073709551616
    · rw [if_pos h1]
      unfold Lib.signed
      simp only []
      by_cases h2 : 9223372036854775808 < v
      · rw [if_pos h2, if_neg (by simp; omega)]
      · rw [if_neg h2, if_pos (by simp; omega)]
    · rw [if_neg h1, if_neg (by simp; omega)]
      rfl
  · have hb := body_pos s (by simpa using hg)
    rw [if_neg hg]
    rw [hb] at hn ⊢
    obtain ⟨c, r, rfl, h1, h2⟩ := nat_head hn
    rw [Lib.atoiAll_plain c r (by omega) (by omega), parseMag_digs _ hn]
    generalize valN (c :: r) = v
    by_cases h1 : v < 18446744073709551616
    · rw [if_pos h1]
      unfold Lib.signless
      simp only []
      by_cases h2 : 9223372036854775808 ≤ v
      · rw [if_pos h2, if_neg (by simp; omega)]
      · rw [if_neg h2, if_pos (by simp; omega)]
    · rw [if_neg h1, if_neg (by simp; omega)]
      rfl

/-! ### The decimal form -/
theorem dd_step (u : Nat) (h : ¬ u < 10) : Lib.decDigits u = Lib.decDigits (u / 10) ++ [UInt8.ofNat (48 + u % 10)] := by rw [Lib.decDigits, dif_neg h]
theorem dd_digs (u : Nat) : digs (Lib.decDigits u) = true := by
  induction u using Nat.strongRecOn with
  | _ u ih =>
    by_cases h : u < 10
    · rw [Lib.decDigits_one h]
      unfold digs
      simp only [List.all_cons, List.all_nil, Bool.and_true]
      exact dig_ofNat _ h
    · rw [dd_step u h]
      have h1 := ih (u / 10) (by omega)
      unfold digs at *
      rw [List.all_append, h1]
      simp only [List.all_cons, List.all_nil, Bool.and_true, Bool.true_and]
      exact dig_ofNat _ (by omega)
theorem dd_val (u : Nat) : valN (Lib.decDigits u) = u := by
  induction u using Nat.strongRecOn with
  | _ u ih =>
    by_cases h : u < 10
    · rw [Lib.decDigits_one h]
      show 0 * 10 + ((UInt8.ofNat (48 + u)).toNat - 48) = u
      rw [ofNat_toNat u h]
      omega
    · rw [dd_step u h, valN_snoc, ih (u / 10) (by omega), ofNat_toNat _ (by omega)]
      omega
theorem dd_head (u : Nat) (h : 0 < u) : ∃ c r, Lib.decDigits u = c :: r ∧ c ≠ 48 := by
  induction u using Nat.strongRecOn with
  | _ u ih =>
    by_cases hs : u < 10
    · rw [Lib.decDigits_one hs]
      refine ⟨_, _, rfl, fun hc => ?_⟩
      have := congrArg UInt8.toNat hc
      rw [ofNat_toNat u hs] at this
      have e : (48 : UInt8).toNat = 48 := rfl
      omega
    · rw [dd_step u hs]
      obtain ⟨c, r, e, hc⟩ := ih (u / 10) (by omega) (by omega)
      rw [e]
      exact ⟨c, _, rfl, hc⟩
theorem dd_nat (u : Nat) : nat (Lib.decDigits u) = true := by
  by_cases h : u = 0
  · subst h; rw [Lib.decDigits_one (by decide)]; decide
  · obtain ⟨c, r, e, hc⟩ := dd_head u (by omega)
    have hd := dd_digs u
    rw [e] at hd ⊢
    unfold nat
    rw [hd]
    simp [hc]
theorem dd_len (u k : Nat) (hk : 1 ≤ k) (h : u < 10 ^ k) : (Lib.decDigits u).length ≤ k := by
  induction k generalizing u with
  | zero => omega
  | succ k ih =>
    by_cases hs : u < 10
    · rw [Lib.decDigits_one hs]; simp
    · rw [dd_step u hs, List.length_append]
      have hk0 : k ≠ 0 := by intro e; subst e; simp at h; omega
      have := ih (u / 10) (by omega) (by rw [Nat.pow_succ] at h; omega)
      simp
      omega
theorem fold_app (l : List UInt8) (c : UInt8) : valN (l ++ [c]) = valN l * 10 + (c.toNat - 48) := valN_snoc l c
/-- Digits without leading zeros are the form of their number. -/
theorem nat_back : ∀ (n : Nat) (l : List UInt8), l.length = n → nat l = true → Lib.decDigits (valN l) = l := by
  intro n
  induction n using Nat.strongRecOn with
  | _ n ih =>
    intro l hn h
    rcases nat_cases h with rfl | ⟨c, r, rfl, hc, hd⟩
    · rw [show valN [48] = 0 from rfl, Lib.decDigits_one (by decide)]; rfl
    · rcases List.eq_nil_or_concat (c :: r) with h0 | ⟨q, x, hq⟩
      · cases h0
      · have hx : dig x = true := by
          rw [hq] at hd
          simp [digs] at hd
          exact hd.2
        have hx' := (dig_iff x).1 hx
        rw [List.concat_eq_append] at hq
        cases q with
        | nil =>
          simp at hq
          obtain ⟨rfl, rfl⟩ := hq
          show Lib.decDigits (0 * 10 + (c.toNat - 48)) = [c]
          rw [Lib.decDigits_one (by omega), show 48 + (0 * 10 + (c.toNat - 48)) = 48 + (c.toNat - 48) by omega, ofNat_back c hx]
        | cons d q =>
          have hcd : c = d := by simp at hq; exact hq.1
          subst hcd
          have hqd : digs (c :: q) = true := by
            rw [hq] at hd
            simp [digs] at hd ⊢
            exact ⟨hd.1, hd.2.1⟩
          have hqn : nat (c :: q) = true := by
            unfold nat
            rw [hqd]
            simp [hc]
          have hlen : (c :: q).length < n := by rw [← hn, hq]; simp
          have hi := ih _ hlen (c :: q) rfl hqn
          have hpos : 0 < valN (c :: q) := by
            rcases Nat.eq_zero_or_pos (valN (c :: q)) with e | e
            · rw [e, Lib.decDigits_one (by decide)] at hi
              have : c = 48 := by
                have := congrArg (fun l => l.head?) hi
                simpa using this.symm
              exact absurd this hc
            · exact e
          rw [hq, valN_snoc, dd_step _ (by omega), show (valN (c :: q) * 10 + (x.toNat - 48)) / 10 = valN (c :: q) by omega,
            show (valN (c :: q) * 10 + (x.toNat - 48)) % 10 = x.toNat - 48 by omega, hi, ofNat_back x hx]
theorem itoa_neg (n : Int) (h : n < 0) : Lib.itoa n = 45 :: Lib.decDigits n.natAbs := by unfold Lib.itoa; rw [if_pos h]
theorem itoa_pos (n : Int) (h : 0 ≤ n) : Lib.itoa n = Lib.decDigits n.toNat := by unfold Lib.itoa; rw [if_neg (by omega)]
theorem neg_itoa (n : Int) (h : 0 ≤ n) : neg (Lib.itoa n) = false := by
  rw [itoa_pos n h]
  obtain ⟨c, r, e, h1, _⟩ := nat_head (dd_nat n.toNat)
  rw [e]
  simp [neg]
  intro hc
  subst hc
  simp at h1
theorem sgn_itoa (n : Int) : sgn (Lib.itoa n) = n := by
  unfold sgn
  by_cases h : n < 0
  · rw [itoa_neg n h, body_neg, dd_val]
    rw [if_pos (by simp [neg])]
    omega
  · have hg := neg_itoa n (by omega)
    rw [if_neg (by simp [hg]), body_pos _ hg, itoa_pos n (by omega), dd_val]
    omega
theorem formed_itoa (n : Int) : formed (Lib.itoa n) = true := by
  unfold formed
  rw [Bool.and_eq_true]
  by_cases h : n < 0
  · rw [itoa_neg n h, body_neg]
    refine ⟨dd_nat _, ?_⟩
    obtain ⟨c, r, e, hc⟩ := dd_head n.natAbs (by omega)
    rw [e]
    simp [hc]
  · have hg := neg_itoa n (by omega)
    rw [body_pos _ hg]
    refine ⟨by rw [itoa_pos n (by omega)]; exact dd_nat _, ?_⟩
    cases hl : Lib.itoa n with
    | nil => rfl
    | cons c r =>
      rw [hl] at hg
      have hc : c ≠ 45 := by simpa [neg] using hg
      simp [hc]
theorem numR_itoa (n : Int) (h0 : -9223372036854775808 ≤ n) (h1 : n ≤ 9223372036854775807) : numR (Lib.itoa n) = (n, 0) := by
  rw [numR_ok (formed_itoa n) (by rw [sgn_itoa]; exact (fits_iff n).2 ⟨h0, h1⟩), sgn_itoa]
theorem itoa_back (s : List UInt8) (h : formed s = true) : Lib.itoa (sgn s) = s := by
  have hn : nat (body s) = true := by unfold formed at h; rw [Bool.and_eq_true] at h; exact h.1
  have hz : s ≠ [45, 48] := by unfold formed at h; rw [Bool.and_eq_true] at h; simpa using h.2
  have hb := nat_back _ _ rfl hn
  unfold sgn
  by_cases hg : neg s = true
  · have e := neg_split s hg
    have hp : 0 < valN (body s) := by
      rcases Nat.eq_zero_or_pos (valN (body s)) with e0 | e0
      · rw [e0, Lib.decDigits_one (by decide)] at hb
        rw [← hb] at e
        exact absurd e hz
      · exact e0
    rw [if_pos hg, itoa_neg _ (by omega), show (-(valN (body s) : Int)).natAbs = valN (body s) by omega, hb, ← e]
  · rw [if_neg hg, itoa_pos _ (by omega), show ((valN (body s) : Int)).toNat = valN (body s) by omega, hb]
    exact body_pos s (by simpa using hg)
end Go.Proofs.YtaglpfilopcniaaDoor
