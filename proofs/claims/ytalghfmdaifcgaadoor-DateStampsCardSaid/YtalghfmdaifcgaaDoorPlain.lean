/-
  Plain facts about digits, numbers and the texts of times and durations: no program. Condition: none beyond each theorem's own hypotheses.
-/
import Derived.Lib.Strings
import Derived.Lib.ItoaNum
import Derived.Laws.RangeAny
namespace Go.Proofs.YtalghfmdaifcgaaDoor
open Go

/-- A text from its bytes. -/
abbrev str (l : List UInt8) : ByteArray := ⟨l.toArray⟩
/-- A decimal digit. -/
def dig (c : UInt8) : Bool := decide (48 ≤ c.toNat ∧ c.toNat ≤ 57)
/-- Digits and nothing else. -/
def digs (l : List UInt8) : Bool := l.all dig
/-- The number that digits denote. -/
def valN (l : List UInt8) : Nat := l.foldl (fun n c => n * 10 + (c.toNat - 48)) 0

theorem dig_iff (c : UInt8) : dig c = true ↔ 48 ≤ c.toNat ∧ c.toNat ≤ 57 := by unfold dig; exact decide_eq_true_iff
theorem valN_snoc (l : List UInt8) (c : UInt8) : valN (l ++ [c]) = valN l * 10 + (c.toNat - 48) := by simp [valN]
theorem pow10_pos : ∀ k : Nat, 1 ≤ 10 ^ k
  | 0 => by decide
  | k + 1 => by have := pow10_pos k; rw [Nat.pow_succ]; omega
theorem fold_lt : ∀ (l : List UInt8) (a : Nat), digs l = true → l.foldl (fun n c => n * 10 + (c.toNat - 48)) a < (a + 1) * 10 ^ l.length
  | [], a, _ => by simp
  | c :: l, a, h => by
    have hl : dig c = true ∧ digs l = true := by simpa [digs] using h
    have hc := (dig_iff c).1 hl.1
    have := fold_lt l (a * 10 + (c.toNat - 48)) hl.2
    rw [List.foldl_cons, List.length_cons, Nat.pow_succ]
    refine Nat.lt_of_lt_of_le this ?_
    rw [Nat.mul_comm (10 ^ l.length) 10, ← Nat.mul_assoc]
    exact Nat.mul_le_mul_right _ (by omega)
theorem valN_lt (l : List UInt8) (h : digs l = true) : valN l < 10 ^ l.length := by
  have := fold_lt l 0 h
  simpa [valN] using this
theorem digs_take (l : List UInt8) (k : Nat) (h : digs l = true) : digs (l.take k) = true := by
  unfold digs at *
  rw [List.all_eq_true] at *
  exact fun x hx => h x (List.mem_of_mem_take hx)
theorem list_at (s : ByteArray) (k : Nat) (h : k < s.size) : s.data.toList[k]? = some s[k] := by
  rw [List.getElem?_eq_getElem (by simpa using h)]; rfl
theorem take_snoc (s : ByteArray) (k : Nat) (h : k < s.size) : s.data.toList.take (k + 1) = s.data.toList.take k ++ [s[k]] := by
  rw [List.take_succ_eq_append_getElem (by simpa using h)]; rfl
theorem digs_at (s : ByteArray) (k : Nat) (h : k < s.size) (hd : digs s.data.toList = true) : 48 ≤ s[k].toNat ∧ s[k].toNat ≤ 57 := by
  unfold digs at hd
  rw [List.all_eq_true] at hd
  exact (dig_iff _).1 (hd _ (List.mem_iff_getElem?.2 ⟨k, list_at s k h⟩))
theorem digs_of_take (s : ByteArray) (k : Nat) (h : ¬ k < s.size) (hd : digs (s.data.toList.take k) = true) : digs s.data.toList = true := by
  rwa [List.take_of_length_le (by simpa using h)] at hd
theorem digs_step (s : ByteArray) (k : Nat) (h : k < s.size) (hd : digs (s.data.toList.take k) = true) (hc : 48 ≤ s[k].toNat ∧ s[k].toNat ≤ 57) : digs (s.data.toList.take (k + 1)) = true := by
  rw [take_snoc s k h]
  have := (dig_iff _).2 hc
  simp_all [digs]
theorem digs_stop (s : ByteArray) (k : Nat) (h : k < s.size) (hc : s[k].toNat < 48 ∨ 57 < s[k].toNat) : digs s.data.toList = false := by
  cases hd : digs s.data.toList with
  | false => rfl
  | true => have := digs_at s k h hd; omega

/-- What may stand at place i of a time's text. -/
def okAt (i : Nat) (c : UInt8) : Bool := if i = 2 ∨ i = 5 then c == 58 else dig c
/-- HH:MM:SS, with any digits. -/
def timeForm (l : List UInt8) : Bool := decide (l.length = 8) && l.zipIdx.all fun x => okAt x.2 x.1

theorem form_at (l : List UInt8) (h : timeForm l = true) : l.length = 8 ∧ ∀ (k : Nat) c, l[k]? = some c → okAt k c = true := by
  unfold timeForm at h
  simp only [Bool.and_eq_true, decide_eq_true_eq, List.all_eq_true] at h
  exact ⟨h.1, fun k c hk => h.2 (c, k) (List.mem_zipIdx_iff_getElem?.2 hk)⟩
theorem form_mk (l : List UInt8) (h8 : l.length = 8) (h : ∀ (k : Nat) c, l[k]? = some c → okAt k c = true) : timeForm l = true := by
  unfold timeForm
  simp only [Bool.and_eq_true, decide_eq_true_eq, List.all_eq_true]
  exact ⟨h8, fun x hx => h x.2 x.1 (List.mem_zipIdx_iff_getElem?.1 hx)⟩
theorem form_not (l : List UInt8) (k : Nat) (c : UInt8) (hk : l[k]? = some c) (h : okAt k c = false) : timeForm l = false := by
  cases hf : timeForm l with
  | false => rfl
  | true => rw [(form_at l hf).2 k c hk] at h; cases h
theorem form_len (l : List UInt8) (h : l.length ≠ 8) : timeForm l = false := by
  cases hf : timeForm l with
  | false => rfl
  | true => exact absurd (form_at l hf).1 h
theorem okAt_colon (k : Nat) (c : UInt8) (hk : k = 2 ∨ k = 5) : okAt k c = true ↔ c.toNat = 58 := by
  unfold okAt
  rw [if_pos hk, beq_iff_eq]
  exact ⟨fun h => by rw [h]; rfl, fun h => UInt8.toNat_inj.1 h⟩
theorem okAt_digit (k : Nat) (c : UInt8) (hk : ¬ (k = 2 ∨ k = 5)) : okAt k c = true ↔ 48 ≤ c.toNat ∧ c.toNat ≤ 57 := by
  unfold okAt
  rw [if_neg hk, dig_iff]

/-- A positive number without leading zeros. -/
def posD (l : List UInt8) : Bool := !l.isEmpty && !(l[0]? == some 48) && digs l
/-- Two digits, a number below 60. -/
def laterD (l : List UInt8) : Bool := decide (l.length = 2) && digs l && decide (valN l < 60)
/-- A positive number below 60 without leading zeros. -/
def firstD (l : List UInt8) : Bool := posD l && decide (l.length ≤ 2) && decide (valN l < 60)
theorem posD_iff (l : List UInt8) : posD l = true ↔ l ≠ [] ∧ l[0]? ≠ some 48 ∧ digs l = true := by
  unfold posD
  simp [and_assoc]
theorem laterD_iff (l : List UInt8) : laterD l = true ↔ l.length = 2 ∧ digs l = true ∧ valN l < 60 := by
  unfold laterD
  simp [and_assoc]
theorem firstD_iff (l : List UInt8) : firstD l = true ↔ posD l = true ∧ l.length ≤ 2 ∧ valN l < 60 := by
  unfold firstD
  simp [and_assoc]

/-- What stands before the first byte c. -/
def before (c : UInt8) (l : List UInt8) : List UInt8 := l.takeWhile (· != c)
/-- What stands behind the first byte c. -/
def after (c : UInt8) (l : List UInt8) : List UInt8 := (l.dropWhile (· != c)).drop 1
theorem take_pre (c : UInt8) (post : List UInt8) : ∀ pre : List UInt8, c ∉ pre → before c (pre ++ c :: post) = pre ∧ after c (pre ++ c :: post) = post
  | [], _ => by simp [before, after]
  | b :: l, h => by
    have hb : (b != c) = true := by rw [bne_iff_ne]; rintro rfl; exact h (by simp)
    have ih := take_pre c post l (fun hx => h (by simp [hx]))
    unfold before after at *
    simp [hb, ih]
theorem split_at (c : UInt8) (l : List UInt8) (h : c ∈ l) : ∃ pre post, l = pre ++ c :: post ∧ c ∉ pre ∧ before c l = pre ∧ after c l = post := by
  obtain ⟨pre, post, rfl, hn⟩ := List.eq_append_cons_of_mem h
  exact ⟨pre, post, rfl, hn, take_pre c post pre hn⟩

/-- What the text HhMMmSSs denotes, cut at the h and without the s: the duration and the error's number. -/
def hoursR (H T : List UInt8) : Int × Int :=
  if 109 ∈ T ∧ laterD (before 109 T) = true ∧ laterD (after 109 T) = true ∧ posD H = true then
    if 2 < H.length then (0, 2) else ((valN H : Int) * 3600 + (valN (before 109 T) : Int) * 60 + (valN (after 109 T) : Int), 0)
  else (0, 3)
/-- What the text MmSSs denotes, cut at the m and without the s. -/
def minutesR (M S : List UInt8) : Int × Int :=
  if firstD M = true ∧ laterD S = true then ((valN M : Int) * 60 + (valN S : Int), 0) else (0, 3)
/-- What a text without its s denotes. -/
def restR (r : List UInt8) : Int × Int :=
  if 104 ∈ r then hoursR (before 104 r) (after 104 r)
  else if 109 ∈ r then minutesR (before 109 r) (after 109 r)
  else if r = [48] then (0, 0)
  else if firstD r = true then ((valN r : Int), 0) else (0, 3)
/-- What a text denotes as a duration. -/
def durR (l : List UInt8) : Int × Int := if List.isSuffixOf [115] l = true then restR l.dropLast else (0, 3)
end Go.Proofs.YtalghfmdaifcgaaDoor
