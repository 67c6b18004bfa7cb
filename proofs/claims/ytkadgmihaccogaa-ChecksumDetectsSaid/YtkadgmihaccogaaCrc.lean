/-
  Plain facts about checksums: shifting bits into a number of 32 bits, byte strings as numbers, linearity, the bits that are inverted: no program. Condition: none beyond each theorem's own hypotheses.
-/
import Derived.Test.YtkadgmihaccogaaDigits
namespace Go.Proofs.Ytkadgmihaccogaa
open Go

/-! ### Shifting -/
/-- The polynomial, its bits reversed. -/
def poly : Nat := 3988292384
/-- All bits of 32. -/
def ones : Nat := 4294967295
abbrev W32 (s : Nat) : Prop := s < 4294967296
/-- One shift. -/
def sh1 (c : Nat) : Nat := if c % 2 = 1 then (c / 2) ^^^ poly else c / 2
/-- Several shifts. -/
def shN : Nat → Nat → Nat
  | 0, c => c
  | k + 1, c => shN k (sh1 c)
/-- A byte shifted in. -/
def inB (c : Nat) (x : UInt8) : Nat := shN 8 (c ^^^ x.toNat)
/-- Bytes shifted in. -/
def updL (c : Nat) (l : List UInt8) : Nat := l.foldl inB c
/-- The checksum continued. -/
def upd (c : Nat) (l : List UInt8) : Nat := updL (c ^^^ ones) l ^^^ ones
/-- The checksum. -/
def crc (l : List UInt8) : Nat := upd 0 l

theorem xor_lt {a b : Nat} (ha : W32 a) (hb : W32 b) : W32 (a ^^^ b) := Nat.xor_lt_two_pow (n := 32) ha hb
theorem poly_lt : W32 poly := by decide
theorem ones_lt : W32 ones := by decide
theorem sh1_bits (c : Nat) : sh1 c = (c >>> 1) ^^^ (if c.testBit 0 then poly else 0) := by
  unfold sh1
  rw [Nat.testBit_zero, Nat.shiftRight_eq_div_pow, Nat.pow_one]
  by_cases h : c % 2 = 1
  · simp [h]
  · simp [h]
theorem xor_four (a b c d : Nat) : (a ^^^ b) ^^^ (c ^^^ d) = (a ^^^ c) ^^^ (b ^^^ d) := by
  rw [Nat.xor_assoc, Nat.xor_assoc, ← Nat.xor_assoc b c d, Nat.xor_comm b c, Nat.xor_assoc c b d]
theorem sh1_xor (a b : Nat) : sh1 (a ^^^ b) = sh1 a ^^^ sh1 b := by
  rw [sh1_bits, sh1_bits, sh1_bits, Nat.shiftRight_xor_distrib, Nat.testBit_xor, xor_four]
  congr 1
  cases a.testBit 0 <;> cases b.testBit 0 <;> simp
theorem sh1_zero : sh1 0 = 0 := rfl
theorem sh1_two (c : Nat) : sh1 (c * 2) = c := by
  unfold sh1
  rw [if_neg (by omega)]
  omega
theorem sh1_lt {c : Nat} (h : W32 c) : W32 (sh1 c) := by
  unfold sh1
  split
  · exact xor_lt (by unfold W32 at *; omega) poly_lt
  · unfold W32 at *; omega
theorem sh1_ne {c : Nat} (h : W32 c) (h0 : c ≠ 0) : sh1 c ≠ 0 := by
  unfold sh1
  split
  · next h1 =>
    intro e
    have hb := congrArg (fun n => Nat.testBit n 31) e
    simp only [Nat.testBit_xor, Nat.zero_testBit] at hb
    rw [show Nat.testBit poly 31 = true by decide, Nat.testBit_lt_two_pow (x := c / 2) (i := 31) (by unfold W32 at h; omega)] at hb
    exact absurd hb (by decide)
  · next h1 => omega
theorem shN_add : ∀ (j k c : Nat), shN (j + k) c = shN k (shN j c)
  | 0, k, c => by rw [Nat.zero_add]; rfl
  | j + 1, k, c => by rw [Nat.add_right_comm]; exact shN_add j k (sh1 c)
theorem shN_succ (k c : Nat) : shN (k + 1) c = sh1 (shN k c) := shN_add k 1 c
theorem shN_xor : ∀ (k a b : Nat), shN k (a ^^^ b) = shN k a ^^^ shN k b
  | 0, _, _ => rfl
  | k + 1, a, b => by
    show shN k (sh1 (a ^^^ b)) = shN k (sh1 a) ^^^ shN k (sh1 b)
    rw [sh1_xor, shN_xor k]
theorem shN_lt : ∀ (k : Nat) {c : Nat}, W32 c → W32 (shN k c)
  | 0, _, h => h
  | k + 1, _, h => shN_lt k (sh1_lt h)
theorem shN_ne : ∀ (k : Nat) {c : Nat}, W32 c → c ≠ 0 → shN k c ≠ 0
  | 0, _, _, h => h
  | k + 1, _, h, h0 => shN_ne k (sh1_lt h) (sh1_ne h h0)
theorem shN_pow : ∀ (k c : Nat), shN k (c * 2 ^ k) = c
  | 0, c => by rw [Nat.pow_zero, Nat.mul_one]; rfl
  | k + 1, c => by
    show shN k (sh1 (c * 2 ^ (k + 1))) = c
    rw [Nat.pow_succ, ← Nat.mul_assoc, sh1_two, shN_pow k]
theorem inB_lt {c : Nat} (h : W32 c) (x : UInt8) : W32 (inB c x) :=
  shN_lt 8 (xor_lt h (Nat.lt_of_lt_of_le (UInt8.toNat_lt x) (by decide)))
theorem updL_lt : ∀ (l : List UInt8) {c : Nat}, W32 c → W32 (updL c l)
  | [], _, h => h
  | x :: l, _, h => updL_lt l (inB_lt h x)
theorem updL_nil (c : Nat) : updL c [] = c := rfl
theorem updL_app (c : Nat) (l m : List UInt8) : updL c (l ++ m) = updL (updL c l) m := List.foldl_append
theorem updL_snoc (c : Nat) (l : List UInt8) (x : UInt8) : updL c (l ++ [x]) = inB (updL c l) x := by rw [updL_app]; rfl
theorem upd_lt {c : Nat} (h : W32 c) (l : List UInt8) : W32 (upd c l) := xor_lt (updL_lt l (xor_lt h ones_lt)) ones_lt
theorem crc_lt (l : List UInt8) : W32 (crc l) := upd_lt (by decide) l
theorem crc_app (l m : List UInt8) : upd (crc l) m = crc (l ++ m) := by
  unfold crc upd
  rw [Nat.xor_assoc, Nat.xor_self, Nat.xor_zero, updL_app]
/-- What the table's way answers: the upper bytes moved, the lowest one by its remainder. -/
theorem split_low (c : Nat) : c = (c / 256 * 2 ^ 8) ^^^ (c % 256) := by
  apply Nat.eq_of_testBit_eq
  intro i
  rw [Nat.testBit_xor, Nat.testBit_mul_two_pow, show (256 : Nat) = 2 ^ 8 by rfl, Nat.testBit_mod_two_pow, Nat.testBit_div_two_pow]
  by_cases h : i < 8
  · simp [h, show ¬ 8 ≤ i by omega]
  · simp [h, show 8 ≤ i by omega, show i - 8 + 8 = i by omega]
theorem inB_table (c : Nat) (x : UInt8) : inB c x = (c / 256) ^^^ shN 8 ((c % 256) ^^^ x.toNat) := by
  unfold inB
  conv => lhs; rw [split_low c]
  rw [Nat.xor_assoc, shN_xor, shN_pow]

/-! ### Byte strings as numbers -/
/-- The number of a byte string: the first byte is the lowest. -/
def num : List UInt8 → Nat
  | [] => 0
  | x :: l => x.toNat ^^^ (num l * 2 ^ 8)
theorem updL_num : ∀ (l : List UInt8) (c : Nat), updL c l = shN (8 * l.length) (c ^^^ num l)
  | [], c => by show c = c ^^^ 0; rw [Nat.xor_zero]
  | x :: l, c => by
    show updL (inB c x) l = _
    rw [updL_num l, List.length_cons, show 8 * (l.length + 1) = 8 + 8 * l.length by omega, shN_add]
    show _ = shN _ (shN 8 (c ^^^ (x.toNat ^^^ (num l * 2 ^ 8))))
    rw [← Nat.xor_assoc, shN_xor 8, shN_pow]
    rfl
theorem crc_num (l : List UInt8) : crc l = shN (8 * l.length) ones ^^^ shN (8 * l.length) (num l) ^^^ ones := by
  unfold crc upd
  rw [Nat.zero_xor, updL_num, shN_xor]
theorem mul_xor (a b k : Nat) : (a ^^^ b) * 2 ^ k = (a * 2 ^ k) ^^^ (b * 2 ^ k) := by
  rw [← Nat.shiftLeft_eq, ← Nat.shiftLeft_eq, ← Nat.shiftLeft_eq, Nat.shiftLeft_xor_distrib]
/-- Strings that differ in a burst of at most 32 bits have checksums that differ. -/
theorem crc_burst (l m : List UInt8) (h : m.length = l.length) (p at' : Nat) (hp : W32 p) (h0 : p ≠ 0) (ha : at' ≤ 8 * l.length) (hn : num m = num l ^^^ (p * 2 ^ at')) : crc m ≠ crc l := by
  rw [crc_num, crc_num, h, hn, shN_xor (8 * l.length) (num l)]
  have e : shN (8 * l.length) (p * 2 ^ at') = shN (8 * l.length - at') p := by
    conv => lhs; rw [show 8 * l.length = at' + (8 * l.length - at') by omega]
    rw [shN_add, shN_pow]
  rw [e]
  have hne := shN_ne (8 * l.length - at') hp h0
  generalize shN (8 * l.length - at') p = q at hne
  generalize shN (8 * l.length) ones = a
  generalize shN (8 * l.length) (num l) = b
  intro heq
  apply hne
  have h1 : (a ^^^ b) ^^^ ((a ^^^ (b ^^^ q)) ^^^ ones ^^^ ones) = (a ^^^ b) ^^^ ((a ^^^ b) ^^^ ones ^^^ ones) := by rw [heq]
  rw [Nat.xor_assoc (a ^^^ (b ^^^ q)) ones ones, Nat.xor_self, Nat.xor_zero, ← Nat.xor_assoc a b q, ← Nat.xor_assoc (a ^^^ b) (a ^^^ b) q, Nat.xor_self, Nat.zero_xor, Nat.xor_assoc (a ^^^ b) ones ones, Nat.xor_self, Nat.xor_zero, Nat.xor_self] at h1
  exact h1
/-- The exclusive or of three bytes. -/
def xor3 (a b c : UInt8) : UInt8 := UInt8.ofNat (a.toNat ^^^ b.toNat ^^^ c.toNat)
theorem xor8_lt {a b : Nat} (ha : a < 256) (hb : b < 256) : a ^^^ b < 256 := Nat.xor_lt_two_pow (n := 8) ha hb
theorem xor3_nat (a b c : UInt8) : (xor3 a b c).toNat = a.toNat ^^^ b.toNat ^^^ c.toNat := by
  unfold xor3
  rw [UInt8.toNat_ofNat']
  exact Nat.mod_eq_of_lt (xor8_lt (xor8_lt (UInt8.toNat_lt a) (UInt8.toNat_lt b)) (UInt8.toNat_lt c))
/-- The exclusive or of three byte strings. -/
def xorL : List UInt8 → List UInt8 → List UInt8 → List UInt8
  | a :: l, b :: m, c :: n => xor3 a b c :: xorL l m n
  | _, _, _ => []
theorem xorL_length : ∀ (l m n : List UInt8), m.length = l.length → n.length = l.length → (xorL l m n).length = l.length
  | [], [], [], _, _ => rfl
  | a :: l, b :: m, c :: n, h, k => by
    show (xorL l m n).length + 1 = l.length + 1
    rw [xorL_length l m n (by simpa using h) (by simpa using k)]
  | [], _ :: _, _, h, _ => by cases h
  | [], [], _ :: _, _, k => by cases k
  | _ :: _, [], _, h, _ => by cases h
  | _ :: _, _ :: _, [], _, k => by cases k
theorem xorL_at : ∀ (l m n : List UInt8) (k : Nat) (x y z : UInt8), l[k]? = some x → m[k]? = some y → n[k]? = some z → (xorL l m n)[k]? = some (xor3 x y z)
  | a :: l, b :: m, c :: n, 0, x, y, z, h1, h2, h3 => by
    simp at h1 h2 h3
    subst h1 h2 h3
    rfl
  | a :: l, b :: m, c :: n, k + 1, x, y, z, h1, h2, h3 => by
    have := xorL_at l m n k x y z (by simpa using h1) (by simpa using h2) (by simpa using h3)
    simpa [xorL] using this
  | [], _, _, _, _, _, _, h, _, _ => by simp at h
  | _ :: _, [], _, _, _, _, _, _, h, _ => by simp at h
  | _ :: _, _ :: _, [], _, _, _, _, _, _, h => by simp at h
theorem xor_six (a b c d e f : Nat) : (a ^^^ b ^^^ c) ^^^ (d ^^^ e ^^^ f) = (a ^^^ d) ^^^ (b ^^^ e) ^^^ (c ^^^ f) := by
  rw [xor_four (a ^^^ b) c (d ^^^ e) f, xor_four a b d e]
theorem xorL_num : ∀ (l m n : List UInt8), m.length = l.length → n.length = l.length → num (xorL l m n) = num l ^^^ num m ^^^ num n
  | [], [], [], _, _ => rfl
  | a :: l, b :: m, c :: n, h, k => by
    show (xor3 a b c).toNat ^^^ (num (xorL l m n) * 2 ^ 8) = (a.toNat ^^^ (num l * 2 ^ 8)) ^^^ (b.toNat ^^^ (num m * 2 ^ 8)) ^^^ (c.toNat ^^^ (num n * 2 ^ 8))
    rw [xorL_num l m n (by simpa using h) (by simpa using k), xor3_nat, mul_xor, mul_xor, xor_six]
  | [], _ :: _, _, h, _ => by cases h
  | [], [], _ :: _, _, k => by cases k
  | _ :: _, [], _, h, _ => by cases h
  | _ :: _, _ :: _, [], _, k => by cases k
theorem xor_cancel (a b c s o : Nat) : (s ^^^ (a ^^^ b ^^^ c)) ^^^ o = ((s ^^^ a ^^^ o) ^^^ (s ^^^ b ^^^ o)) ^^^ (s ^^^ c ^^^ o) := by
  apply Nat.eq_of_testBit_eq
  intro i
  simp only [Nat.testBit_xor]
  cases s.testBit i <;> cases a.testBit i <;> cases b.testBit i <;> cases c.testBit i <;> cases o.testBit i <;> rfl
/-- The checksum is linear. -/
theorem crc_linear (l m n : List UInt8) (h : m.length = l.length) (k : n.length = l.length) : crc (xorL l m n) = crc l ^^^ crc m ^^^ crc n := by
  rw [crc_num, crc_num, crc_num, crc_num, xorL_length l m n h k, h, k, xorL_num l m n h k, shN_xor, shN_xor, xor_cancel]

/-! ### Bits inverted -/
/-- A byte with the bit inverted. -/
def flipX (x : UInt8) (j : Nat) : UInt8 := UInt8.ofNat (x.toNat ^^^ 2 ^ j)
theorem flipX_nat (x : UInt8) (j : Nat) (h : j < 8) : (flipX x j).toNat = x.toNat ^^^ 2 ^ j := by
  unfold flipX
  rw [UInt8.toNat_ofNat']
  exact Nat.mod_eq_of_lt (xor8_lt (UInt8.toNat_lt x) (Nat.pow_lt_pow_right (n := 8) (by decide) h))
/-- A byte string with bit k inverted. -/
def flipB (l : List UInt8) (k : Nat) : List UInt8 := l.set (k / 8) (flipX (l.getD (k / 8) 0) (k % 8))
theorem flipB_length (l : List UInt8) (k : Nat) : (flipB l k).length = l.length := List.length_set
theorem set_num : ∀ (l : List UInt8) (i : Nat) (x y : UInt8), l[i]? = some x → num (l.set i y) = num l ^^^ ((x.toNat ^^^ y.toNat) * 2 ^ (8 * i))
  | a :: l, 0, x, y, h => by
    simp at h
    subst h
    show y.toNat ^^^ (num l * 2 ^ 8) = (a.toNat ^^^ (num l * 2 ^ 8)) ^^^ ((a.toNat ^^^ y.toNat) * 2 ^ 0)
    rw [Nat.pow_zero, Nat.mul_one, Nat.xor_comm a.toNat (num l * 2 ^ 8), Nat.xor_assoc, ← Nat.xor_assoc a.toNat a.toNat, Nat.xor_self, Nat.zero_xor, Nat.xor_comm]
  | a :: l, i + 1, x, y, h => by
    have ih := set_num l i x y (by simpa using h)
    show a.toNat ^^^ (num (l.set i y) * 2 ^ 8) = (a.toNat ^^^ (num l * 2 ^ 8)) ^^^ _
    rw [ih, mul_xor, Nat.xor_assoc, Nat.mul_assoc, ← Nat.pow_add, show 8 * i + 8 = 8 * (i + 1) by omega]
  | [], _, _, _, h => by simp at h
theorem flipB_num (l : List UInt8) (k : Nat) (h : k / 8 < l.length) : num (flipB l k) = num l ^^^ 2 ^ k := by
  obtain ⟨x, hx⟩ := at_lt h
  unfold flipB
  rw [set_num l _ x _ hx, List.getD_eq_getElem?_getD, hx, Option.getD_some, flipX_nat x _ (Nat.mod_lt _ (by decide)), ← Nat.xor_assoc, Nat.xor_self, Nat.zero_xor, ← Nat.pow_add, show k % 8 + 8 * (k / 8) = k by omega]
/-- The bits of the pattern below i inverted, the lowest at bit a. -/
def flipN (l : List UInt8) (a p : Nat) : Nat → List UInt8
  | 0 => l
  | i + 1 => if p.testBit i then flipB (flipN l a p i) (a + i) else flipN l a p i
theorem flipN_length (l : List UInt8) (a p : Nat) : ∀ i, (flipN l a p i).length = l.length
  | 0 => rfl
  | i + 1 => by
    show (if p.testBit i then flipB (flipN l a p i) (a + i) else flipN l a p i).length = _
    split
    · rw [flipB_length, flipN_length l a p i]
    · exact flipN_length l a p i
/-- Whether the bits of the pattern below i lie in the string. -/
def fitsN (n a p i : Nat) : Prop := ∀ j, j < i → p.testBit j = true → (a + j) / 8 < n
theorem mod_bit (p i : Nat) : p % 2 ^ (i + 1) = (p % 2 ^ i) ^^^ (if p.testBit i then 2 ^ i else 0) := by
  apply Nat.eq_of_testBit_eq
  intro j
  rw [Nat.testBit_xor, Nat.testBit_mod_two_pow, Nat.testBit_mod_two_pow]
  rcases Nat.lt_trichotomy j i with h | h | h
  · have hne : ¬ i = j := by omega
    cases hp : p.testBit i <;> simp [h, show j < i + 1 by omega, hne]
  · subst h
    cases hp : p.testBit j <;> simp
  · have hne : ¬ i = j := by omega
    cases hp : p.testBit i <;> simp [show ¬ j < i by omega, show ¬ j < i + 1 by omega, hne]
theorem flipN_num (l : List UInt8) (a p : Nat) : ∀ i, fitsN l.length a p i → num (flipN l a p i) = num l ^^^ ((p % 2 ^ i) * 2 ^ a)
  | 0, _ => by
    show num l = _
    rw [Nat.pow_zero, Nat.mod_one, Nat.zero_mul, Nat.xor_zero]
  | i + 1, h => by
    have ih := flipN_num l a p i fun j hj hp => h j (by omega) hp
    show num (if p.testBit i then flipB (flipN l a p i) (a + i) else flipN l a p i) = _
    rw [mod_bit]
    by_cases hp : p.testBit i = true
    · rw [if_pos hp, if_pos hp, flipB_num _ _ (by rw [flipN_length]; exact h i (by omega) hp), ih, mul_xor, Nat.xor_assoc, Nat.pow_add, Nat.mul_comm (2 ^ a)]
    · rw [if_neg hp, if_neg hp, ih, Nat.xor_zero]
theorem flipN_take (l : List UInt8) (a p n : Nat) (h : 8 * n ≤ a) : ∀ i, (flipN l a p i).take n = l.take n
  | 0 => rfl
  | i + 1 => by
    show (if p.testBit i then flipB (flipN l a p i) (a + i) else flipN l a p i).take n = _
    split
    · unfold flipB
      rw [List.take_set_of_le (by omega), flipN_take l a p n h i]
    · exact flipN_take l a p n h i
/-- Where the pattern is not 0 and lies in the string, it begins in the string. -/
theorem fits_start {n a p : Nat} (hp : W32 p) (h0 : p ≠ 0) (h : fitsN n a p 32) : a ≤ 8 * n := by
  obtain ⟨j, hj⟩ := Nat.exists_testBit_of_ne_zero h0
  have hlt : j < 32 := by
    rcases Nat.lt_or_ge j 32 with h | h
    · exact h
    · rw [Nat.testBit_lt_two_pow (Nat.lt_of_lt_of_le hp (Nat.pow_le_pow_right (n := 2) (by decide) h))] at hj
      cases hj
  have := h j hlt hj
  omega

/-! ### Sealed strings -/
/-- Four bytes of a number, the highest first. -/
def be4 (c : Nat) : List UInt8 := [UInt8.ofNat (c / 16777216), UInt8.ofNat (c / 65536), UInt8.ofNat (c / 256), UInt8.ofNat c]
theorem be4_inj {c d : Nat} (hc : W32 c) (hd : W32 d) (h : be4 c = be4 d) : c = d := by
  unfold be4 at h
  simp only [List.cons.injEq, and_true] at h
  obtain ⟨h1, h2, h3, h4⟩ := h
  have k1 := congrArg UInt8.toNat h1
  have k2 := congrArg UInt8.toNat h2
  have k3 := congrArg UInt8.toNat h3
  have k4 := congrArg UInt8.toNat h4
  rw [UInt8.toNat_ofNat', UInt8.toNat_ofNat'] at k1 k2 k3 k4
  unfold W32 at hc hd
  omega
/-- The sealed string. -/
def sealL (l : List UInt8) : List UInt8 := l ++ be4 (crc l)
theorem sealL_length (l : List UInt8) : (sealL l).length = l.length + 4 := by
  unfold sealL
  rw [List.length_append]
  rfl
theorem sealL_take (l : List UInt8) : (sealL l).take l.length = l := by
  unfold sealL
  exact List.take_left
/-- The string inside a sealed one, if it is one. -/
def opens (l : List UInt8) : Bool := decide (sealL (l.take (l.length - 4)) = l)
theorem opens_seal (l : List UInt8) : opens (sealL l) = true := by
  unfold opens
  rw [sealL_length, Nat.add_sub_cancel, sealL_take]
  exact decide_eq_true rfl
/-- A burst in the content. -/
theorem opens_burst (l : List UInt8) (a p : Nat) (hp : W32 p) (h0 : p ≠ 0) (hf : fitsN l.length a p 32) : opens (flipN l a p 32 ++ be4 (crc l)) = false := by
  unfold opens
  rw [decide_eq_false_iff_not, List.length_append]
  have hl := flipN_length l a p 32
  have h4 : (be4 (crc l)).length = 4 := rfl
  rw [h4, Nat.add_sub_cancel, List.take_left]
  intro e
  unfold sealL at e
  have e2 := List.append_cancel_left e
  have hn := flipN_num l a p 32 hf
  rw [Nat.mod_eq_of_lt (show p < 2 ^ 32 from hp)] at hn
  exact crc_burst l _ hl p a hp h0 (fits_start hp h0 hf) hn (be4_inj (crc_lt _) (crc_lt _) e2)
/-- The last four bytes replaced. -/
theorem opens_ends (l : List UInt8) (p : Nat) (hp : W32 p) (h0 : p ≠ 0) : opens (flipN (sealL l) (8 * l.length) p 32) = false := by
  unfold opens
  rw [decide_eq_false_iff_not, flipN_length, sealL_length, Nat.add_sub_cancel, flipN_take _ _ _ _ (Nat.le_refl _), sealL_take]
  intro e
  have hf : fitsN (sealL l).length (8 * l.length) p 32 := by
    intro j hj _
    rw [sealL_length]
    omega
  have hn := flipN_num (sealL l) (8 * l.length) p 32 hf
  rw [← e, Nat.mod_eq_of_lt (show p < 2 ^ 32 from hp)] at hn
  have h1 : num (sealL l) ^^^ num (sealL l) = num (sealL l) ^^^ (num (sealL l) ^^^ p * 2 ^ (8 * l.length)) := congrArg (fun n => num (sealL l) ^^^ n) hn
  rw [Nat.xor_self, ← Nat.xor_assoc, Nat.xor_self, Nat.zero_xor] at h1
  have h2 := Nat.two_pow_pos (8 * l.length)
  rcases Nat.mul_eq_zero.1 h1.symm with h | h
  · exact h0 h
  · omega
theorem fits_ends (l : List UInt8) (p i : Nat) (hi : i ≤ 32) : fitsN (sealL l).length (8 * l.length) p i := by
  intro j hj _
  rw [sealL_length]
  omega
theorem fits_step {n a p i : Nat} (h : fitsN n a p i) (hs : p.testBit i = true → (a + i) / 8 < n) : fitsN n a p (i + 1) := by
  intro j hj hp
  rcases Nat.lt_or_ge j i with h1 | h1
  · exact h j h1 hp
  · have : j = i := by omega
    subst this
    exact hs hp
theorem flipN_step (l : List UInt8) (a p i : Nat) (h : p.testBit i = true) : flipN l a p (i + 1) = flipB (flipN l a p i) (a + i) := if_pos h
theorem flipN_skip (l : List UInt8) (a p i : Nat) (h : p.testBit i = false) : flipN l a p (i + 1) = flipN l a p i := if_neg (by rw [h]; decide)
end Go.Proofs.Ytkadgmihaccogaa
