/-
  Plain facts about the forms of prices: no program. Condition: none beyond each theorem's own hypotheses.
-/
import Derived.Test.YtaglpfilopcniaaDoorNum
namespace Go.Proofs.YtaglpfilopcniaaDoor
open Go

/-- Not a full stop. -/
def noStop (c : UInt8) : Bool := c != 46
/-- What stands before the first full stop; what stands behind it. -/
def bef (l : List UInt8) : List UInt8 := l.takeWhile noStop
def beh (l : List UInt8) : List UInt8 := (l.dropWhile noStop).drop 1
/-- The form of a price of any size. -/
def priced (l : List UInt8) : Bool := nat (bef l) && ((beh l).length == 2 && digs (beh l))
/-- The price that a text of the right form denotes. -/
def worth (l : List UInt8) : Nat := valN (bef l) * 100 + valN (beh l)
/-- What a text is read as: the price and the number of the error. -/
def priceR (l : List UInt8) : Int × Int := if priced l then (if worth l ≤ 1000000 then ((worth l : Int), 0) else (0, 2)) else (0, 3)
/-- The form of a price. -/
def priceText (c : Nat) : List UInt8 := Lib.decDigits (c / 100) ++ 46 :: two ((c % 100 : Nat) : Int)

theorem bef_at (l : List UInt8) (pos : Nat) (h : (l.take pos).all noStop = true) (hc : l[pos]? = some 46) : bef l = l.take pos ∧ beh l = l.drop (pos + 1) := by
  have e : l = l.take pos ++ 46 :: l.drop (pos + 1) := by
    have hp : pos < l.length := (List.getElem?_eq_some_iff.1 hc).1
    have h1 : l.drop pos = 46 :: l.drop (pos + 1) := by
      rw [List.drop_eq_getElem_cons hp]
      rw [List.getElem?_eq_getElem hp] at hc
      rw [Option.some.inj hc]
    rw [← h1, List.take_append_drop]
  rw [List.all_eq_true] at h
  unfold bef beh
  constructor
  · conv => lhs; rw [e]
    rw [List.takeWhile_append_of_pos h]
    simp [noStop]
  · conv => lhs; rw [e]
    rw [List.dropWhile_append_of_pos h]
    simp [noStop]
theorem bef_none (l : List UInt8) (h : l.all noStop = true) : bef l = l ∧ beh l = [] := by
  rw [List.all_eq_true] at h
  unfold bef beh
  have h1 := List.takeWhile_append_of_pos (l₂ := []) h
  have h2 := List.dropWhile_append_of_pos (l₂ := []) h
  rw [List.append_nil] at h1 h2
  exact ⟨by rw [h1]; simp, by rw [h2]; rfl⟩
theorem digs_noStop {l : List UInt8} (h : digs l = true) : l.all noStop = true := by
  unfold digs at h
  rw [List.all_eq_true] at *
  intro c hc
  have := (dig_iff c).1 (h c hc)
  unfold noStop
  rw [bne_iff_ne]
  intro e
  subst e
  simp at this
theorem bef_join (a b : List UInt8) (h : digs a = true) : bef (a ++ 46 :: b) = a ∧ beh (a ++ 46 :: b) = b := by
  have h1 := digs_noStop h
  have := bef_at (a ++ 46 :: b) a.length (by rw [List.take_left']; exact h1; rfl) (by simp)
  rw [List.take_left' rfl] at this
  refine ⟨this.1, this.2.trans ?_⟩
  rw [List.drop_append]
  simp
theorem split_join (l : List UInt8) (h : beh l ≠ []) : l = bef l ++ 46 :: beh l := by
  unfold bef beh at *
  cases hd : l.dropWhile noStop with
  | nil => rw [hd] at h; exact absurd rfl h
  | cons c r =>
    have hc : noStop c = false := by
      have := List.head?_dropWhile_not noStop l
      rw [hd] at this
      simpa using this
    have : c = 46 := by simpa [noStop] using hc
    subst this
    have e := List.takeWhile_append_dropWhile (p := noStop) (l := l)
    rw [hd] at e
    simpa using e.symm
theorem priced_parts {l : List UInt8} (h : priced l = true) : nat (bef l) = true ∧ (beh l).length = 2 ∧ digs (beh l) = true := by
  unfold priced at h
  rw [Bool.and_eq_true, Bool.and_eq_true] at h
  exact ⟨h.1, by simpa using h.2.1, h.2.2⟩
theorem beh_two {l : List UInt8} (h : priced l = true) : ∃ a b, beh l = [a, b] ∧ dig a = true ∧ dig b = true := by
  obtain ⟨_, h2, h3⟩ := priced_parts h
  match hb : beh l, h2 with
  | [a, b], _ =>
    rw [hb] at h3
    simp [digs] at h3
    exact ⟨a, b, rfl, h3.1, h3.2⟩
/-- The reference looks from the end. -/
theorem priced_end (l : List UInt8) : priced l = (decide (4 ≤ l.length) && (l[l.length - 3]? == some 46) && nat (l.take (l.length - 3)) && nat (49 :: l.drop (l.length - 2))) := by
  rw [Bool.eq_iff_iff]
  simp only [Bool.and_eq_true, decide_eq_true_eq, beq_iff_eq]
  constructor
  · intro h
    obtain ⟨h1, h2, h3⟩ := priced_parts h
    have e := split_join l (by intro hc; rw [hc] at h2; simp at h2)
    generalize bef l = a at *
    generalize beh l = b at *
    clear h
    subst e
    have hp : 0 < a.length := List.length_pos_iff.2 (nat_ne h1)
    have hl : (a ++ 46 :: b).length = a.length + 3 := by simp [h2]
    rw [hl, show a.length + 3 - 3 = a.length by omega, show a.length + 3 - 2 = a.length + 1 by omega]
    refine ⟨⟨⟨by omega, by simp⟩, by rw [List.take_left' rfl]; exact h1⟩, ?_⟩
    rw [List.drop_append]
    simp
    rw [List.drop_eq_nil_of_le (by omega), List.nil_append]
    unfold nat
    have : digs (49 :: b) = true := by
      unfold digs at *
      rw [List.all_cons, h3]
      decide
    rw [this]
    simp
  · rintro ⟨⟨⟨h1, h2⟩, h3⟩, h4⟩
    have hs := digs_noStop (nat_digs h3)
    obtain ⟨e1, e2⟩ := bef_at l (l.length - 3) hs h2
    unfold priced
    rw [e1, e2, h3, show l.length - 3 + 1 = l.length - 2 by omega]
    have hd := nat_digs h4
    have : digs (l.drop (l.length - 2)) = true := by
      unfold digs at *
      rw [List.all_cons] at hd
      exact (Bool.and_eq_true _ _ |>.mp hd).2
    rw [this]
    simp
    omega
theorem priced_ends {l : List UInt8} (h : priced l = true) : ∃ a b, beh l = [a, b] ∧ dig a = true ∧ dig b = true ∧ l.take (l.length - 3) = bef l ∧ l[l.length - 2]? = some a ∧ l[l.length - 1]? = some b := by
  obtain ⟨a, b, hb, da, db⟩ := beh_two h
  have hj := split_join l (by rw [hb]; simp)
  rw [hb] at hj
  have key : ∀ m p : List UInt8, m = p ++ [46, a, b] → m.take (m.length - 3) = p ∧ m[m.length - 2]? = some a ∧ m[m.length - 1]? = some b := by
    rintro m p rfl
    rw [List.length_append]
    refine ⟨by simp, ?_, ?_⟩
    · rw [List.getElem?_append_right (by simp)]
      simp
    · rw [List.getElem?_append_right (by simp)]
      simp
  exact ⟨a, b, hb, da, db, key l (bef l) hj⟩
theorem two_of (a b : UInt8) (ha : dig a = true) (hb : dig b = true) : two ((valN [a, b] : Nat) : Int) = [a, b] ∧ valN [a, b] < 100 := by
  have h1 := (dig_iff a).1 ha
  have h2 := (dig_iff b).1 hb
  refine ⟨two_back a b ha hb _ rfl, ?_⟩
  rw [val_pair]
  omega
/-- A text of the right form is the form of its price. -/
theorem price_back (l : List UInt8) (h : priced l = true) : priceText (worth l) = l := by
  obtain ⟨a, b, hb, da, db⟩ := beh_two h
  obtain ⟨h1, _, _⟩ := priced_parts h
  obtain ⟨t1, t2⟩ := two_of a b da db
  unfold priceText worth
  rw [hb, show (valN (bef l) * 100 + valN [a, b]) / 100 = valN (bef l) by omega, show (valN (bef l) * 100 + valN [a, b]) % 100 = valN [a, b] by omega, nat_back _ _ rfl h1, t1, ← hb]
  exact (split_join l (by rw [hb]; simp)).symm
theorem price_text (c : Nat) : priced (priceText c) = true ∧ worth (priceText c) = c := by
  obtain ⟨e1, e2⟩ := bef_join (Lib.decDigits (c / 100)) (two ((c % 100 : Nat) : Int)) (dd_digs _)
  have hd := two_digs ((c % 100 : Nat) : Int) (by omega)
  have hv := two_val ((c % 100 : Nat) : Int) (by omega)
  unfold priced worth priceText
  rw [e1, e2, dd_nat, hd, dd_val, hv]
  refine ⟨by simp [two_len], by omega⟩
theorem priceR_text (c : Nat) (h : c ≤ 1000000) : priceR (priceText c) = ((c : Int), 0) := by
  obtain ⟨h1, h2⟩ := price_text c
  unfold priceR
  rw [if_pos h1, h2, if_pos h]
end Go.Proofs.YtaglpfilopcniaaDoor
