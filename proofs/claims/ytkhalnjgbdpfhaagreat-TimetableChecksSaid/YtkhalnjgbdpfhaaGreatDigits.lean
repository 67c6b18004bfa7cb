/-
  Plain facts about bytes, digits, numbers of one or two digits and their order: no program. Condition: none beyond each theorem's own hypotheses.
-/
import Derived.Lib.Strings
import Derived.Lib.ItoaNum
import Derived.Laws.RangeAny
import GoSem.Op.String
namespace Go.Proofs.YtkhalnjgbdpfhaaGreat
open Go

/-- A text from its bytes. -/
abbrev str (l : List UInt8) : ByteArray := ⟨l.toArray⟩
/-- A decimal digit. -/
def dig (c : UInt8) : Bool := decide (48 ≤ c.toNat ∧ c.toNat ≤ 57)
/-- Digits and nothing else. -/
def digs (l : List UInt8) : Bool := l.all dig
/-- The number that digits denote. -/
def valN (l : List UInt8) : Nat := l.foldl (fun n c => n * 10 + (c.toNat - 48)) 0

theorem dig_iff (c : UInt8) : dig c = true ↔ 48 ≤ c.toNat ∧ c.toNat ≤ 57 := by unfold dig; exact decide_eq_true_iff
theorem valN_snoc (l : List UInt8) (c : UInt8) : valN (l ++ [c]) = valN l * 10 + (c.toNat - 48) := by simp [valN]
theorem pow10_pos : ∀ k : Nat, 1 ≤ 10 ^ k
  | 0 => by decide
  | k + 1 => by have := pow10_pos k; rw [Nat.pow_succ]; omega
theorem fold_lt : ∀ (l : List UInt8) (a : Nat), digs l = true → l.foldl (fun n c => n * 10 + (c.toNat - 48)) a < (a + 1) * 10 ^ l.length
  | [], a, _ => by simp
  | c :: l, a, h => by
    have hl : dig c = true ∧ digs l = true := by simpa [digs] using h
    have hc := (dig_iff c).1 hl.1
    have := fold_lt l (a * 10 + (c.toNat - 48)) hl.2
    rw [List.foldl_cons, List.length_cons, Nat.pow_succ]
    refine Nat.lt_of_lt_of_le this ?_
    rw [Nat.mul_comm (10 ^ l.length) 10, ← Nat.mul_assoc]
    exact Nat.mul_le_mul_right _ (by omega)
theorem valN_lt (l : List UInt8) (h : digs l = true) : valN l < 10 ^ l.length := by
  have := fold_lt l 0 h
  simpa [valN] using this
theorem digs_take (l : List UInt8) (k : Nat) (h : digs l = true) : digs (l.take k) = true := by
  unfold digs at *
  rw [List.all_eq_true] at *
  exact fun x hx => h x (List.mem_of_mem_take hx)
theorem list_at (s : ByteArray) (k : Nat) (h : k < s.size) : s.data.toList[k]? = some s[k] := by
  rw [List.getElem?_eq_getElem (by simpa using h)]; rfl
theorem take_snoc (s : ByteArray) (k : Nat) (h : k < s.size) : s.data.toList.take (k + 1) = s.data.toList.take k ++ [s[k]] := by
  rw [List.take_succ_eq_append_getElem (by simpa using h)]; rfl
theorem digs_at (s : ByteArray) (k : Nat) (h : k < s.size) (hd : digs s.data.toList = true) : 48 ≤ s[k].toNat ∧ s[k].toNat ≤ 57 := by
  unfold digs at hd
  rw [List.all_eq_true] at hd
  exact (dig_iff _).1 (hd _ (List.mem_iff_getElem?.2 ⟨k, list_at s k h⟩))
theorem digs_of_take (s : ByteArray) (k : Nat) (h : ¬ k < s.size) (hd : digs (s.data.toList.take k) = true) : digs s.data.toList = true := by
  rwa [List.take_of_length_le (by simpa using h)] at hd
theorem digs_step (s : ByteArray) (k : Nat) (h : k < s.size) (hd : digs (s.data.toList.take k) = true) (hc : 48 ≤ s[k].toNat ∧ s[k].toNat ≤ 57) : digs (s.data.toList.take (k + 1)) = true := by
  rw [take_snoc s k h]
  have := (dig_iff _).2 hc
  simp_all [digs]
theorem digs_stop (s : ByteArray) (k : Nat) (h : k < s.size) (hc : s[k].toNat < 48 ∨ 57 < s[k].toNat) : digs s.data.toList = false := by
  cases hd : digs s.data.toList with
  | false => rfl
  | true => have := digs_at s k h hd; omega

/-- A number from 0 to 99 in two digits. -/
def two (x : Int) : List UInt8 := [UInt8.ofNat (48 + x.toNat / 10), UInt8.ofNat (48 + x.toNat % 10)]
/-- A number that is not negative in decimal digits. -/
def dec (x : Int) : List UInt8 := Lib.decDigits x.toNat
/-- The number of the two bytes from place a on. -/
def pairN (l : List UInt8) (a : Nat) : Nat := valN ((l.drop a).take 2)
theorem ofNat_toNat (x : Nat) (h : x < 10) : (UInt8.ofNat (48 + x)).toNat = 48 + x := by
  rw [UInt8.toNat_ofNat']; omega
theorem dig_ofNat (x : Nat) (h : x < 10) : dig (UInt8.ofNat (48 + x)) = true := by
  rw [dig_iff, ofNat_toNat x h]; omega
theorem ofNat_back (c : UInt8) (h : dig c = true) : UInt8.ofNat (48 + (c.toNat - 48)) = c := by
  have := (dig_iff c).1 h
  rw [show 48 + (c.toNat - 48) = c.toNat by omega, UInt8.ofNat_toNat]
theorem two_digs (x : Int) (h1 : x < 100) : digs (two x) = true := by
  unfold two digs
  simp only [List.all_cons, List.all_nil, Bool.and_true, Bool.and_eq_true]
  exact ⟨dig_ofNat _ (by omega), dig_ofNat _ (by omega)⟩
theorem two_val (x : Int) (h1 : x < 100) : valN (two x) = x.toNat := by
  unfold two valN
  simp only [List.foldl_cons, List.foldl_nil]
  rw [ofNat_toNat _ (by omega), ofNat_toNat _ (by omega)]
  omega
theorem val_pair (a b : UInt8) : valN [a, b] = (a.toNat - 48) * 10 + (b.toNat - 48) := by
  simp [valN]
theorem two_back (a b : UInt8) (ha : dig a = true) (hb : dig b = true) (x : Int) (hx : x = valN [a, b]) : two x = [a, b] := by
  have h1 := (dig_iff a).1 ha
  have h2 := (dig_iff b).1 hb
  unfold two
  rw [hx, val_pair]
  rw [show (((a.toNat - 48) * 10 + (b.toNat - 48) : Nat) : Int).toNat / 10 = a.toNat - 48 by omega, show (((a.toNat - 48) * 10 + (b.toNat - 48) : Nat) : Int).toNat % 10 = b.toNat - 48 by omega, ofNat_back a ha, ofNat_back b hb]

theorem dec_one (x : Int) (h1 : x < 10) : dec x = [UInt8.ofNat (48 + x.toNat)] := by
  unfold dec
  rw [Lib.decDigits_one (by omega)]
theorem dec_two' (x : Int) (h0 : 10 ≤ x) (h1 : x < 100) : dec x = two x := by
  unfold dec two
  rw [Lib.decDigits_two (by omega) (by omega)]
theorem dec_digs (x : Int) (h0 : 0 ≤ x) (h1 : x < 100) : digs (dec x) = true := by
  by_cases h : x < 10
  · rw [dec_one x h]
    unfold digs
    simp only [List.all_cons, List.all_nil, Bool.and_true]
    exact dig_ofNat _ (by omega)
  · rw [dec_two' x (by omega) h1]
    exact two_digs x h1
theorem dec_val (x : Int) (h0 : 0 ≤ x) (h1 : x < 100) : valN (dec x) = x.toNat := by
  by_cases h : x < 10
  · rw [dec_one x h]
    unfold valN
    simp only [List.foldl_cons, List.foldl_nil]
    rw [ofNat_toNat _ (by omega)]
    omega
  · rw [dec_two' x (by omega) h1]
    exact two_val x h1
theorem dec_length (x : Int) (h1 : x < 100) : (dec x).length ≤ 2 := by
  by_cases h : x < 10
  · rw [dec_one x h]; exact Nat.le_succ 1
  · rw [dec_two' x (by omega) h1]; exact Nat.le_refl 2
theorem less_app : ∀ (x y u v : List UInt8), x.length = y.length → Op.bytesLess (x ++ u) (y ++ v) = (Op.bytesLess x y || (x == y && Op.bytesLess u v))
  | [], [], u, v, _ => by simp [Op.bytesLess]
  | a :: x, b :: y, u, v, h => by
    have ih := less_app x y u v (by simpa using h)
    simp only [List.cons_append, Op.bytesLess, ih]
    by_cases hl : a < b
    · simp [hl]
    · by_cases he : a = b
      · subst he
        simp [hl]
      · have h1 : (a == b) = false := by rw [beq_eq_false_iff_ne]; exact he
        have h2 : (a :: x == b :: y) = false := by rw [beq_eq_false_iff_ne]; intro hc; cases hc; exact he rfl
        simp [hl, h1, h2]
theorem digit_lt (a c : Nat) (ha : a < 10) (hc : c < 10) : (UInt8.ofNat (48 + a) < UInt8.ofNat (48 + c)) = (a < c) := by
  rw [UInt8.lt_iff_toNat_lt, ofNat_toNat a ha, ofNat_toNat c hc]
  exact propext ⟨fun h => by omega, fun h => by omega⟩
theorem digit_eq (a c : Nat) (ha : a < 10) (hc : c < 10) : (UInt8.ofNat (48 + a) = UInt8.ofNat (48 + c)) = (a = c) := by
  refine propext ⟨fun h => ?_, fun h => by rw [h]⟩
  have := congrArg UInt8.toNat h
  rw [ofNat_toNat a ha, ofNat_toNat c hc] at this
  omega
theorem two_less (x y : Int) (x0 : 0 ≤ x) (x1 : x < 100) (y0 : 0 ≤ y) (y1 : y < 100) : Op.bytesLess (two x) (two y) = decide (x < y) := by
  have a1 : x.toNat / 10 < 10 := by omega
  have a2 : x.toNat % 10 < 10 := by omega
  have b1 : y.toNat / 10 < 10 := by omega
  have b2 : y.toNat % 10 < 10 := by omega
  unfold two
  simp only [Op.bytesLess, Bool.and_false, Bool.or_false]
  rw [Bool.eq_iff_iff]
  simp only [Bool.or_eq_true, Bool.and_eq_true, decide_eq_true_eq, beq_iff_eq]
  rw [digit_lt _ _ a1 b1, digit_lt _ _ a2 b2, digit_eq _ _ a1 b1]
  omega
theorem two_same (x y : Int) (x0 : 0 ≤ x) (x1 : x < 100) (y0 : 0 ≤ y) (y1 : y < 100) : (two x == two y) = decide (x = y) := by
  rw [Bool.eq_iff_iff, beq_iff_eq, decide_eq_true_eq]
  refine ⟨fun h => ?_, fun h => by rw [h]⟩
  have := congrArg valN h
  rw [two_val x x1, two_val y y1] at this
  omega
theorem two_len (x : Int) : (two x).length = 2 := rfl
theorem dec_len (x : Int) (h : x < 100) : (dec x).length ≤ 2 := by
  unfold dec
  by_cases h1 : x.toNat < 10
  · rw [Lib.decDigits_one h1]; simp
  · rw [Lib.decDigits_two h1 (by omega)]; simp
theorem two_le (x : Int) : (two x).length ≤ 100 := by rw [two_len]; decide
theorem dec_le (x : Int) (h : x < 100) : (dec x).length ≤ 100 := by have := dec_len x h; omega
theorem dec_two (x : Int) (h0 : 0 ≤ x) (h1 : x < 100) : dec (x / 10) ++ dec (x % 10) = two x := by
  obtain ⟨n, rfl⟩ : ∃ n : Nat, x = n := ⟨x.toNat, by omega⟩
  unfold dec two
  rw [Lib.decDigits_one (i := ((n : Int) / 10).toNat) (by omega), Lib.decDigits_one (i := ((n : Int) % 10).toNat) (by omega)]
  rw [show ((n : Int) / 10).toNat = n / 10 by omega, show ((n : Int) % 10).toNat = n % 10 by omega]
  rfl


/-! ### Lists by index -/
theorem at_lt {α : Type} {l : List α} {k : Nat} (h : k < l.length) : ∃ x, l[k]? = some x := ⟨l[k], List.getElem?_eq_getElem h⟩
theorem drop_at {α : Type} (l : List α) (k : Nat) (x : α) (h : l[k]? = some x) : l.drop k = x :: l.drop (k + 1) := by
  have hk := (List.getElem?_eq_some_iff.1 h).1
  rw [List.drop_eq_getElem_cons hk, (List.getElem?_eq_some_iff.1 h).2]
theorem take_at {α : Type} (l : List α) (k : Nat) (x : α) (h : l[k]? = some x) : l.take (k + 1) = l.take k ++ [x] := by
  rw [List.take_add_one, h]; rfl
theorem all_stop {p : UInt8 → Bool} {l : List UInt8} {k : Nat} {c : UInt8} (h : l[k]? = some c) (hc : p c = false) : l.all p = false := by
  cases ha : l.all p with
  | false => rfl
  | true =>
    rw [List.all_eq_true] at ha
    rw [ha c (List.mem_iff_getElem?.2 ⟨k, h⟩)] at hc
    cases hc
theorem all_take (p : UInt8 → Bool) (l : List UInt8) (k : Nat) (c : UInt8) (h : l[k]? = some c) (ht : (l.take k).all p = true) (hc : p c = true) : (l.take (k + 1)).all p = true := by
  rw [take_at l k c h, List.all_append, ht]
  simp [hc]
end Go.Proofs.YtkhalnjgbdpfhaaGreat
