/-
  Plain facts about the encodings of numbers in groups of seven bits, of integers, byte strings and lists of integers: no program. Condition: none beyond each theorem's own hypotheses.
-/
import Derived.Test.YteojfgpinmpocaaDigits
namespace Go.Proofs.Yteojfgpinmpocaa
open Go

/-- The encoding of a number: at most k + 1 bytes. -/
def putF : Nat → Nat → List UInt8
  | 0, n => [UInt8.ofNat n]
  | k + 1, n => if n < 128 then [UInt8.ofNat n] else UInt8.ofNat (128 + n % 128) :: putF k (n / 128)
def putU (n : Nat) : List UInt8 := putF 9 n
/-- The number whose encoding begins a list, and the number of its bytes, or the error; f: the next byte is the first one; k: how many may follow it. -/
def decF : Nat → Bool → List UInt8 → Except Int (Nat × Nat)
  | 0, f, l => match l with
    | [] => .error 4
    | c :: _ => if 1 < c.toNat then .error 3 else if c.toNat = 0 ∧ f = false then .error 3 else .ok (c.toNat, 1)
  | k + 1, f, l => match l with
    | [] => .error 4
    | c :: r => if c.toNat = 0 ∧ f = false then .error 3 else if c.toNat < 128 then .ok (c.toNat, 1) else match decF k false r with
      | .error e => .error e
      | .ok (v, n) => .ok (c.toNat % 128 + 128 * v, n + 1)

theorem u8_small {n : Nat} (h : n < 256) : (UInt8.ofNat n).toNat = n := by rw [UInt8.toNat_ofNat']; omega
theorem u8_back (c : UInt8) : UInt8.ofNat c.toNat = c := UInt8.ofNat_toNat
theorem putF_zero (n : Nat) : putF 0 n = [UInt8.ofNat n] := rfl
theorem putF_small {k n : Nat} (h : n < 128) : putF k n = [UInt8.ofNat n] := by
  cases k with
  | zero => rfl
  | succ k => unfold putF; rw [if_pos h]
theorem putF_big {k n : Nat} (h : 128 ≤ n) : putF (k + 1) n = UInt8.ofNat (128 + n % 128) :: putF k (n / 128) := by
  conv => lhs; unfold putF
  rw [if_neg (by omega)]
theorem putF_len : ∀ k n : Nat, 1 ≤ (putF k n).length ∧ (putF k n).length ≤ k + 1
  | 0, n => by rw [putF_zero]; simp
  | k + 1, n => by
    by_cases h : n < 128
    · rw [putF_small h]; simp
    · rw [putF_big (by omega), List.length_cons]
      have := putF_len k (n / 128)
      omega
theorem putU_len (n : Nat) : 1 ≤ (putU n).length ∧ (putU n).length ≤ 10 := putF_len 9 n

theorem decF_nil (k : Nat) (f : Bool) : decF k f [] = .error 4 := by cases k <;> rfl
theorem decF_syntax {k : Nat} {f : Bool} {c : UInt8} {r : List UInt8} (h : (k = 0 ∧ 1 < c.toNat) ∨ (c.toNat = 0 ∧ f = false)) : decF k f (c :: r) = .error 3 := by
  cases k with
  | zero =>
    show (if 1 < c.toNat then _ else if c.toNat = 0 ∧ f = false then _ else _) = _
    by_cases h1 : 1 < c.toNat
    · rw [if_pos h1]
    · rw [if_neg h1, if_pos (h.resolve_left fun h0 => h1 h0.2)]
  | succ k =>
    show (if c.toNat = 0 ∧ f = false then _ else if c.toNat < 128 then _ else _) = _
    rw [if_pos (h.resolve_left fun h0 => by omega)]
theorem decF_last {k : Nat} {f : Bool} {c : UInt8} {r : List UInt8} (h1 : ¬ (k = 0 ∧ 1 < c.toNat)) (h2 : ¬ (c.toNat = 0 ∧ f = false)) (h3 : c.toNat < 128) : decF k f (c :: r) = .ok (c.toNat, 1) := by
  cases k with
  | zero =>
    show (if 1 < c.toNat then _ else if c.toNat = 0 ∧ f = false then _ else _) = _
    rw [if_neg (by simpa using h1), if_neg h2]
  | succ k =>
    show (if c.toNat = 0 ∧ f = false then _ else if c.toNat < 128 then _ else _) = _
    rw [if_neg h2, if_pos h3]
theorem decF_more {k : Nat} {f : Bool} {c : UInt8} {r : List UInt8} (h : 128 ≤ c.toNat) : decF (k + 1) f (c :: r) = match decF k false r with
      | .error e => .error e
      | .ok (v, n) => .ok (c.toNat % 128 + 128 * v, n + 1) := by
  show (if c.toNat = 0 ∧ f = false then _ else if c.toNat < 128 then _ else _) = _
  rw [if_neg (by omega), if_neg (by omega)]

/-! ### There and back -/
theorem decF_putF : ∀ (k n : Nat) (f : Bool) (r : List UInt8), n < 2 * 128 ^ k → (f = true ∨ n ≠ 0) → decF k f (putF k n ++ r) = .ok (n, (putF k n).length)
  | 0, n, f, r, hn, hf => by
    have hn2 : n < 2 := by simpa using hn
    rw [putF_zero]
    have e : (UInt8.ofNat n).toNat = n := u8_small (by omega)
    show decF 0 f (UInt8.ofNat n :: r) = _
    rw [decF_last (by rw [e]; omega) (by rw [e]; rcases hf with h | h <;> simp [h]) (by rw [e]; omega), e]
    rfl
  | k + 1, n, f, r, hn, hf => by
    by_cases h : n < 128
    · rw [putF_small h]
      have e : (UInt8.ofNat n).toNat = n := u8_small (by omega)
      show decF (k + 1) f (UInt8.ofNat n :: r) = _
      rw [decF_last (by omega) (by rw [e]; rcases hf with h | h <;> simp [h]) (by rw [e]; omega), e]
      rfl
    · rw [putF_big (by omega)]
      have e : (UInt8.ofNat (128 + n % 128)).toNat = 128 + n % 128 := u8_small (by omega)
      rw [List.cons_append, decF_more (by rw [e]; omega), decF_putF k (n / 128) false r (by rw [Nat.pow_succ] at hn; omega) (Or.inr (by omega)), e, List.length_cons]
      show Except.ok _ = _
      congr 2
      omega
theorem putF_decF : ∀ (k : Nat) (f : Bool) (l : List UInt8) (v n : Nat), decF k f l = .ok (v, n) → putF k v = l.take n ∧ 1 ≤ n ∧ n ≤ l.length ∧ v < 2 * 128 ^ k ∧ (f = true ∨ v ≠ 0)
  | k, f, [], v, n, h => by rw [decF_nil] at h; cases h
  | 0, f, c :: r, v, n, h => by
    by_cases h1 : 1 < c.toNat
    · rw [decF_syntax (Or.inl ⟨rfl, h1⟩)] at h; cases h
    by_cases h2 : c.toNat = 0 ∧ f = false
    · rw [decF_syntax (Or.inr h2)] at h; cases h
    rw [decF_last (by omega) h2 (by omega)] at h
    cases h
    rw [putF_zero, u8_back]
    refine ⟨rfl, Nat.le_refl _, by simp, by omega, ?_⟩
    cases f with
    | true => exact Or.inl rfl
    | false => exact Or.inr fun h0 => h2 ⟨h0, rfl⟩
  | k + 1, f, c :: r, v, n, h => by
    by_cases h2 : c.toNat = 0 ∧ f = false
    · rw [decF_syntax (Or.inr h2)] at h; cases h
    by_cases h3 : c.toNat < 128
    · rw [decF_last (by omega) h2 h3] at h
      cases h
      rw [putF_small h3, u8_back]
      refine ⟨rfl, Nat.le_refl _, by simp, ?_, ?_⟩
      · have := Nat.one_le_two_pow (n := 7 * k)
        have e : 128 ^ (k + 1) = 128 * 2 ^ (7 * k) := by rw [Nat.pow_succ, Nat.pow_mul, Nat.mul_comm]
        rw [e]; omega
      · cases f with
        | true => exact Or.inl rfl
        | false => exact Or.inr fun h0 => h2 ⟨h0, rfl⟩
    · rw [decF_more (by omega)] at h
      cases hr : decF k false r with
      | error e => rw [hr] at h; cases h
      | ok q =>
        obtain ⟨v', n'⟩ := q
        rw [hr] at h
        have h' : (c.toNat % 128 + 128 * v', n' + 1) = (v, n) := Except.ok.inj h
        cases h'
        obtain ⟨i1, i2, i3, i4, i5⟩ := putF_decF k false r v' n' hr
        have i6 : v' ≠ 0 := i5.resolve_left (by simp)
        have hc := UInt8.toNat_lt c
        rw [putF_big (by omega), show (c.toNat % 128 + 128 * v') / 128 = v' by omega, i1, show 128 + (c.toNat % 128 + 128 * v') % 128 = c.toNat by omega, u8_back]
        refine ⟨rfl, by omega, by rw [List.length_cons]; omega, by rw [Nat.pow_succ]; omega, Or.inr (by omega)⟩
theorem decF_short : ∀ (k n : Nat) (f : Bool) (i : Nat), i < (putF k n).length → decF k f ((putF k n).take i) = .error 4
  | k, n, f, 0, _ => by rw [List.take_zero, decF_nil]
  | 0, n, f, i + 1, h => by rw [putF_zero] at h; simp at h
  | k + 1, n, f, i + 1, h => by
    by_cases hn : n < 128
    · rw [putF_small hn] at h; simp at h
    · rw [putF_big (by omega)] at h ⊢
      rw [List.length_cons] at h
      have e : (UInt8.ofNat (128 + n % 128)).toNat = 128 + n % 128 := u8_small (by omega)
      rw [List.take_succ_cons, decF_more (by rw [e]; omega), decF_short k (n / 128) false i (by omega)]
theorem decF_err : ∀ (k : Nat) (f : Bool) (l : List UInt8) (e : Int), decF k f l = .error e → e = 3 ∨ e = 4
  | k, f, [], e, h => by rw [decF_nil] at h; cases h; exact Or.inr rfl
  | 0, f, c :: r, e, h => by
    by_cases h1 : 1 < c.toNat
    · rw [decF_syntax (Or.inl ⟨rfl, h1⟩)] at h; cases h; exact Or.inl rfl
    by_cases h2 : c.toNat = 0 ∧ f = false
    · rw [decF_syntax (Or.inr h2)] at h; cases h; exact Or.inl rfl
    rw [decF_last (by omega) h2 (by omega)] at h
    cases h
  | k + 1, f, c :: r, e, h => by
    by_cases h2 : c.toNat = 0 ∧ f = false
    · rw [decF_syntax (Or.inr h2)] at h; cases h; exact Or.inl rfl
    by_cases h3 : c.toNat < 128
    · rw [decF_last (by omega) h2 h3] at h; cases h
    rw [decF_more (by omega)] at h
    cases hr : decF k false r with
    | error e' => rw [hr] at h; cases h; exact decF_err k false r _ hr
    | ok q => rw [hr] at h; cases h

/-! ### A number, and an integer, at a place -/
/-- What Uint answers: the value, the index behind it, the error. -/
def rU (l : List UInt8) (a : Int) : Nat × Int × Int :=
  if a < 0 ∨ (l.length : Int) < a then (0, 0, 2) else match decF 9 true (l.drop a.toNat) with
    | .error e => (0, 0, e)
    | .ok (v, n) => (v, a + (n : Int), 0)
theorem rU_range {l : List UInt8} {a : Int} (h : a < 0 ∨ (l.length : Int) < a) : rU l a = (0, 0, 2) := by unfold rU; rw [if_pos h]
theorem rU_in (l : List UInt8) (p : Nat) (h : p ≤ l.length) : rU l p = match decF 9 true (l.drop p) with
    | .error e => (0, 0, e)
    | .ok (v, n) => (v, (p : Int) + (n : Int), 0) := by
  unfold rU
  rw [if_neg (by omega), Int.toNat_natCast]
theorem rU_cases (l : List UInt8) (a : Int) : (∃ e, rU l a = (0, 0, e) ∧ (e = 2 ∨ e = 3 ∨ e = 4)) ∨
    ∃ p n v : Nat, a = p ∧ rU l a = (v, ((p + n : Nat) : Int), 0) ∧ 1 ≤ n ∧ p + n ≤ l.length ∧ v < 18446744073709551616 ∧ putU v = (l.drop p).take n := by
  by_cases h : a < 0 ∨ (l.length : Int) < a
  · exact Or.inl ⟨2, rU_range h, Or.inl rfl⟩
  · obtain ⟨p, rfl⟩ : ∃ p : Nat, a = p := ⟨a.toNat, by omega⟩
    have hp : p ≤ l.length := by omega
    rw [rU_in l p hp]
    cases hd : decF 9 true (l.drop p) with
    | error e =>
      refine Or.inl ⟨e, rfl, Or.inr (decF_err _ _ _ _ hd)⟩
    | ok q =>
      obtain ⟨v, n⟩ := q
      obtain ⟨h1, h2, h3, h4, -⟩ := putF_decF _ _ _ _ _ hd
      rw [List.length_drop] at h3
      exact Or.inr ⟨p, n, v, rfl, by simp, h2, by omega, h4, h1⟩
theorem rU_put (a r : List UInt8) (n : Nat) (h : n < 18446744073709551616) : rU (a ++ (putU n ++ r)) (a.length : Nat) = (n, ((a.length + (putU n).length : Nat) : Int), 0) := by
  rw [rU_in _ _ (by simp), List.drop_left]
  have := decF_putF 9 n true r h (Or.inl rfl)
  unfold putU at this ⊢
  rw [this]
  simp
theorem rU_short (a : List UInt8) (n i : Nat) (h : i < (putU n).length) : rU (a ++ (putU n).take i) (a.length : Nat) = (0, 0, 4) := by
  rw [rU_in _ _ (by simp), List.drop_left]
  unfold putU at h ⊢
  rw [decF_short 9 n true i h]

/-- The unsigned integer that stands for an integer, and back. -/
def zig (n : Int) : Nat := if 0 ≤ n then (2 * n).toNat else (-2 * n - 1).toNat
def unz (u : Nat) : Int := if u % 2 = 0 then ((u / 2 : Nat) : Int) else -((u / 2 : Nat) : Int) - 1
/-- It is an int. -/
abbrev I64 (n : Int) : Prop := -9223372036854775808 ≤ n ∧ n ≤ 9223372036854775807
theorem unz_zig (n : Int) : unz (zig n) = n := by
  unfold zig
  split
  · unfold unz; rw [if_pos (by omega)]; omega
  · unfold unz; rw [if_neg (by omega)]; omega
theorem zig_unz (u : Nat) : zig (unz u) = u := by
  unfold unz
  split
  · unfold zig; rw [if_pos (by omega)]; omega
  · unfold zig; rw [if_neg (by omega)]; omega
theorem zig_lt {n : Int} (h : I64 n) : zig n < 18446744073709551616 := by
  unfold zig
  split <;> omega
theorem unz_in {u : Nat} (h : u < 18446744073709551616) : I64 (unz u) := by
  unfold unz I64
  split <;> omega
def putI (n : Int) : List UInt8 := putU (zig n)
theorem putI_len (n : Int) : 1 ≤ (putI n).length ∧ (putI n).length ≤ 10 := putU_len _
/-- What Int answers. -/
def rI (l : List UInt8) (a : Int) : Int × Int × Int := if (rU l a).2.2 = 0 then (unz (rU l a).1, (rU l a).2.1, 0) else (0, 0, (rU l a).2.2)
theorem rI_bad {l : List UInt8} {a : Int} {e : Int} (h : rU l a = (0, 0, e)) (he : e ≠ 0) : rI l a = (0, 0, e) := by unfold rI; rw [h, if_neg he]
theorem rI_good {l : List UInt8} {a : Int} {v : Nat} {q : Int} (h : rU l a = (v, q, 0)) : rI l a = (unz v, q, 0) := by unfold rI; rw [h, if_pos rfl]
theorem rI_cases (l : List UInt8) (a : Int) : (∃ e, rI l a = (0, 0, e) ∧ (e = 2 ∨ e = 3 ∨ e = 4)) ∨
    ∃ (p n : Nat) (x : Int), a = p ∧ rI l a = (x, ((p + n : Nat) : Int), 0) ∧ 1 ≤ n ∧ p + n ≤ l.length ∧ I64 x ∧ putI x = (l.drop p).take n := by
  rcases rU_cases l a with ⟨e, h, he⟩ | ⟨p, n, v, h1, h2, h3, h4, h5, h6⟩
  · exact Or.inl ⟨e, rI_bad h (by omega), he⟩
  · exact Or.inr ⟨p, n, unz v, h1, rI_good h2, h3, h4, unz_in h5, by unfold putI; rw [zig_unz, h6]⟩
theorem rI_put (a r : List UInt8) (n : Int) (h : I64 n) : rI (a ++ (putI n ++ r)) (a.length : Nat) = (n, ((a.length + (putI n).length : Nat) : Int), 0) := by
  unfold putI
  rw [rI_good (rU_put a r (zig n) (zig_lt h)), unz_zig]
theorem rI_short (a : List UInt8) (n : Int) (i : Nat) (h : i < (putI n).length) : rI (a ++ (putI n).take i) (a.length : Nat) = (0, 0, 4) :=
  rI_bad (rU_short a (zig n) i h) (by decide)

/-! ### A length, a byte string, a bool -/
/-- A length that is at most m. -/
def rN (l : List UInt8) (a m : Int) : Nat × Int × Int :=
  if (rU l a).2.2 = 0 then (if m < 0 ∨ m < ((rU l a).1 : Int) then (0, 0, 5) else rU l a) else (0, 0, (rU l a).2.2)
theorem rN_bad {l : List UInt8} {a m : Int} {e : Int} (h : rU l a = (0, 0, e)) (he : e ≠ 0) : rN l a m = (0, 0, e) := by unfold rN; rw [h, if_neg he]
theorem rN_limit {l : List UInt8} {a m : Int} {v : Nat} {q : Int} (h : rU l a = (v, q, 0)) (hm : m < 0 ∨ m < (v : Int)) : rN l a m = (0, 0, 5) := by unfold rN; rw [h, if_pos rfl, if_pos hm]
theorem rN_good {l : List UInt8} {a m : Int} {v : Nat} {q : Int} (h : rU l a = (v, q, 0)) (hm : ¬ (m < 0 ∨ m < (v : Int))) : rN l a m = (v, q, 0) := by unfold rN; rw [h, if_pos rfl, if_neg hm]
theorem rN_cases (l : List UInt8) (a m : Int) : (∃ e, rN l a m = (0, 0, e) ∧ (e = 2 ∨ e = 3 ∨ e = 4 ∨ e = 5)) ∨
    ∃ p n v : Nat, a = p ∧ rN l a m = (v, ((p + n : Nat) : Int), 0) ∧ (v : Int) ≤ m ∧ 1 ≤ n ∧ p + n ≤ l.length ∧ v < 18446744073709551616 ∧ putU v = (l.drop p).take n := by
  rcases rU_cases l a with ⟨e, h, he⟩ | ⟨p, n, v, h1, h2, h3, h4, h5, h6⟩
  · exact Or.inl ⟨e, rN_bad h (by omega), by omega⟩
  · by_cases hm : m < 0 ∨ m < (v : Int)
    · exact Or.inl ⟨5, rN_limit h2 hm, by simp⟩
    · exact Or.inr ⟨p, n, v, h1, rN_good h2 hm, by omega, h3, h4, h5, h6⟩
/-- What Bytes answers. -/
def rB (l : List UInt8) (a m : Int) : List UInt8 × Int × Int :=
  if (rN l a m).2.2 = 0 then (if (l.length : Int) - (rN l a m).2.1 < ((rN l a m).1 : Int) then ([], 0, 4) else ((l.drop (rN l a m).2.1.toNat).take (rN l a m).1, (rN l a m).2.1 + ((rN l a m).1 : Int), 0)) else ([], 0, (rN l a m).2.2)
theorem rB_bad {l : List UInt8} {a m : Int} {e : Int} (h : rN l a m = (0, 0, e)) (he : e ≠ 0) : rB l a m = ([], 0, e) := by unfold rB; rw [h, if_neg he]
theorem rB_cut {l : List UInt8} {a m : Int} {v q : Nat} (h : rN l a m = (v, (q : Int), 0)) (hq : l.length < q + v) : rB l a m = ([], 0, 4) := by unfold rB; rw [h, if_pos rfl, if_pos (by simp only; omega)]
theorem rB_good {l : List UInt8} {a m : Int} {v q : Nat} (h : rN l a m = (v, (q : Int), 0)) (hq : q + v ≤ l.length) : rB l a m = ((l.drop q).take v, ((q + v : Nat) : Int), 0) := by
  unfold rB
  rw [h, if_pos rfl, if_neg (by simp only; omega)]
  simp
theorem rB_cases (l : List UInt8) (a m : Int) : (∃ e, rB l a m = ([], 0, e) ∧ (e = 2 ∨ e = 3 ∨ e = 4 ∨ e = 5)) ∨
    ∃ (p n : Nat) (s : List UInt8), a = p ∧ rB l a m = (s, ((p + n : Nat) : Int), 0) ∧ p + n ≤ l.length ∧ putU s.length ++ s = (l.drop p).take n := by
  rcases rN_cases l a m with ⟨e, h, he⟩ | ⟨p, n, v, h1, h2, h3, h4, h5, h6, h7⟩
  · exact Or.inl ⟨e, rB_bad h (by omega), he⟩
  · by_cases hq : p + n + v ≤ l.length
    · refine Or.inr ⟨p, n + v, (l.drop (p + n)).take v, h1, ?_, by omega, ?_⟩
      · rw [rB_good h2 hq, Nat.add_assoc]
      · have hl : ((l.drop (p + n)).take v).length = v := by rw [List.length_take, List.length_drop]; omega
        rw [hl, h7, List.take_add, List.drop_drop]
    · exact Or.inl ⟨4, rB_cut h2 (by omega), by simp⟩
def putB (s : List UInt8) : List UInt8 := putU s.length ++ s
theorem putB_len (s : List UInt8) : s.length + 1 ≤ (putB s).length ∧ (putB s).length ≤ s.length + 10 := by
  have := putU_len s.length
  unfold putB
  rw [List.length_append]
  omega
theorem rB_put (a r s : List UInt8) (h : s.length ≤ 9223372036854775807) : rB (a ++ (putB s ++ r)) (a.length : Nat) (s.length : Nat) = (s, ((a.length + (putB s).length : Nat) : Int), 0) := by
  have e : a ++ (putB s ++ r) = a ++ (putU s.length ++ (s ++ r)) := by unfold putB; rw [List.append_assoc]
  rw [e]
  rw [rB_good (rN_good (rU_put a (s ++ r) s.length (by omega)) (by omega)) (by simp; omega)]
  have e2 : a ++ (putU s.length ++ (s ++ r)) = (a ++ putU s.length) ++ (s ++ r) := by rw [List.append_assoc]
  have e3 : a.length + (putU s.length).length = (a ++ putU s.length).length := by rw [List.length_append]
  rw [e2, e3, List.drop_left, List.take_left]
  unfold putB
  rw [List.length_append, List.length_append, Nat.add_assoc]
theorem rB_short (s : List UInt8) (i : Nat) (h : i < (putB s).length) (hs : s.length ≤ 9223372036854775807) : rB ((putB s).take i) 0 (s.length : Nat) = ([], 0, 4) := by
  by_cases hi : i < (putU s.length).length
  · have e : (putB s).take i = [] ++ (putU s.length).take i := by unfold putB; rw [List.take_append_of_le_length (by omega)]; rfl
    rw [e]
    have := rU_short [] s.length i hi
    exact rB_bad (rN_bad this (by decide)) (by decide)
  · have e : (putB s).take i = [] ++ (putU s.length ++ s.take (i - (putU s.length).length)) := by
      unfold putB; rw [List.take_append, List.take_of_length_le (by omega)]; rfl
    have hlen : ([] ++ (putU s.length ++ s.take (i - (putU s.length).length))).length < ([] : List UInt8).length + (putU s.length).length + s.length := by
      unfold putB at h
      rw [List.length_append] at h
      simp only [List.nil_append, List.length_append, List.length_take, List.length_nil]
      omega
    rw [e]
    have := rU_put [] (s.take (i - (putU s.length).length)) s.length (by omega)
    exact rB_cut (rN_good this (by omega)) hlen
/-- What Bool answers. -/
def rT (l : List UInt8) (a : Int) : Bool × Int × Int :=
  if a < 0 ∨ (l.length : Int) < a then (false, 0, 2) else match l[a.toNat]? with
    | none => (false, 0, 4)
    | some c => if 1 < c.toNat then (false, 0, 3) else (decide (c.toNat = 1), a + 1, 0)
def putT (v : Bool) : List UInt8 := if v then [1] else [0]
theorem putT_len (v : Bool) : (putT v).length = 1 := by cases v <;> rfl
theorem rT_range {l : List UInt8} {a : Int} (h : a < 0 ∨ (l.length : Int) < a) : rT l a = (false, 0, 2) := by unfold rT; rw [if_pos h]
theorem rT_end (l : List UInt8) : rT l (l.length : Nat) = (false, 0, 4) := by
  unfold rT
  rw [if_neg (by omega), Int.toNat_natCast, List.getElem?_eq_none (Nat.le_refl _)]
theorem rT_at {l : List UInt8} {p : Nat} {c : UInt8} (h : l[p]? = some c) : rT l (p : Nat) = if 1 < c.toNat then (false, 0, 3) else (decide (c.toNat = 1), (p : Int) + 1, 0) := by
  have := (List.getElem?_eq_some_iff.1 h).1
  unfold rT
  rw [if_neg (by omega), Int.toNat_natCast, h]
theorem rT_put (a r : List UInt8) (v : Bool) : rT (a ++ (putT v ++ r)) (a.length : Nat) = (v, ((a.length + (putT v).length : Nat) : Int), 0) := by
  have h : ∀ c : UInt8, (a ++ (c :: r))[a.length]? = some c := fun c => by rw [List.getElem?_append_right (Nat.le_refl _), Nat.sub_self]; rfl
  cases v
  · exact (rT_at (h 0)).trans (by simp [putT])
  · exact (rT_at (h 1)).trans (by simp [putT])

/-! ### Lists of integers -/
/-- n integers, one after the other, from place p on. -/
def intsF (l : List UInt8) : Nat → Int → List Int × Int × Int
  | 0, p => ([], p, 0)
  | k + 1, p => if (rI l p).2.2 = 0 then (if (intsF l k (rI l p).2.1).2.2 = 0 then ((rI l p).1 :: (intsF l k (rI l p).2.1).1, (intsF l k (rI l p).2.1).2.1, 0) else ([], 0, (intsF l k (rI l p).2.1).2.2)) else ([], 0, (rI l p).2.2)
/-- What was read ahead, and what follows. -/
def joinF (acc : List Int) (r : List Int × Int × Int) : List Int × Int × Int := if r.2.2 = 0 then (acc ++ r.1, r.2.1, 0) else ([], 0, r.2.2)
theorem joinF_end (l : List UInt8) (acc : List Int) (p : Int) : joinF acc (intsF l 0 p) = (acc, p, 0) := by unfold joinF intsF; simp
theorem joinF_bad {l : List UInt8} {k : Nat} {p : Int} {e : Int} (acc : List Int) (h : rI l p = (0, 0, e)) (he : e ≠ 0) : joinF acc (intsF l (k + 1) p) = ([], 0, e) := by
  unfold joinF intsF; rw [h, if_neg he, if_neg he]
theorem joinF_step {l : List UInt8} {k : Nat} {p : Int} {x q : Int} (acc : List Int) (h : rI l p = (x, q, 0)) : joinF acc (intsF l (k + 1) p) = joinF (acc ++ [x]) (intsF l k q) := by
  conv => lhs; unfold intsF
  rw [h, if_pos rfl]
  simp only
  generalize intsF l k q = r
  unfold joinF
  by_cases hr : r.2.2 = 0
  · rw [if_pos hr, if_pos rfl, if_pos hr, List.append_assoc]; rfl
  · rw [if_neg hr, if_neg hr, if_neg hr]
theorem joinF_nil (l : List UInt8) (k : Nat) (p : Int) : joinF [] (intsF l k p) = intsF l k p := by
  cases k with
  | zero => exact joinF_end l [] p
  | succ k =>
    rcases rI_cases l p with ⟨e, h, he⟩ | ⟨_, _, x, -, h, -⟩
    · rw [joinF_bad [] h (by omega)]
      unfold intsF; rw [h, if_neg (by show e ≠ 0; omega)]
    · rw [joinF_step [] h]
      conv => rhs; unfold intsF
      rw [h, if_pos rfl]
      rfl
/-- What Ints answers. -/
def rL (l : List UInt8) (a m : Int) : List Int × Int × Int := if (rN l a m).2.2 = 0 then intsF l (rN l a m).1 (rN l a m).2.1 else ([], 0, (rN l a m).2.2)
theorem rL_bad {l : List UInt8} {a m : Int} {e : Int} (h : rN l a m = (0, 0, e)) (he : e ≠ 0) : rL l a m = ([], 0, e) := by unfold rL; rw [h, if_neg he]
theorem rL_good {l : List UInt8} {a m : Int} {v : Nat} {q : Int} (h : rN l a m = (v, q, 0)) : rL l a m = intsF l v q := by unfold rL; rw [h, if_pos rfl]
def flatI (xs : List Int) : List UInt8 := xs.flatMap putI
theorem flatI_cons (x : Int) (xs : List Int) : flatI (x :: xs) = putI x ++ flatI xs := rfl
theorem flatI_snoc (xs : List Int) (x : Int) : flatI (xs ++ [x]) = flatI xs ++ putI x := by unfold flatI; simp
theorem flatI_len : ∀ xs : List Int, (flatI xs).length ≤ 10 * xs.length
  | [] => Nat.le_refl _
  | x :: xs => by
    have := flatI_len xs
    have h := putI_len x
    rw [flatI_cons, List.length_append, List.length_cons]
    omega
def putL (xs : List Int) : List UInt8 := putU xs.length ++ flatI xs
theorem putL_len (xs : List Int) : (putL xs).length ≤ 10 * xs.length + 10 := by
  have := putU_len xs.length
  have := flatI_len xs
  unfold putL
  rw [List.length_append]
  omega
theorem intsF_cases (l : List UInt8) : ∀ (k p : Nat), p ≤ l.length → (∃ e, intsF l k (p : Int) = ([], 0, e) ∧ (e = 2 ∨ e = 3 ∨ e = 4)) ∨
    ∃ (n : Nat) (xs : List Int), intsF l k (p : Int) = (xs, ((p + n : Nat) : Int), 0) ∧ xs.length = k ∧ k ≤ n ∧ p + n ≤ l.length ∧ flatI xs = (l.drop p).take n ∧ ∀ x ∈ xs, I64 x
  | 0, p, hp => Or.inr ⟨0, [], rfl, rfl, Nat.le_refl _, hp, by rw [List.take_zero]; rfl, fun x hx => absurd hx (by simp)⟩
  | k + 1, p, hp => by
    rcases rI_cases l p with ⟨e, h, he⟩ | ⟨p', n, x, hp', h, h1, h2, h3, h4⟩
    · refine Or.inl ⟨e, ?_, he⟩
      unfold intsF; rw [h, if_neg (by show e ≠ 0; omega)]
    · obtain rfl : p = p' := by omega
      have hs : intsF l (k + 1) (p : Int) = joinF [x] (intsF l k ((p + n : Nat) : Int)) := by rw [← joinF_nil, joinF_step [] h]; rfl
      rw [hs]
      rcases intsF_cases l k (p + n) h2 with ⟨e, i, ie⟩ | ⟨m, xs, i, i0, i1, i2, i3, i4⟩
      · refine Or.inl ⟨e, ?_, ie⟩
        rw [i]; unfold joinF; rw [if_neg (by show e ≠ 0; omega)]
      · refine Or.inr ⟨n + m, x :: xs, ?_, by rw [List.length_cons, i0], by omega, by omega, ?_, fun y hy => ?_⟩
        · rw [i]; unfold joinF; rw [if_pos rfl, ← Nat.add_assoc]; rfl
        · rw [flatI_cons, h4, i3, List.take_add, List.drop_drop]
        · rcases List.mem_cons.1 hy with rfl | hy
          · exact h3
          · exact i4 y hy
theorem rL_cases (l : List UInt8) (a m : Int) : (∃ e, rL l a m = ([], 0, e) ∧ (e = 2 ∨ e = 3 ∨ e = 4 ∨ e = 5)) ∨
    ∃ (p n : Nat) (xs : List Int), a = p ∧ rL l a m = (xs, ((p + n : Nat) : Int), 0) ∧ (xs.length : Int) ≤ m ∧ xs.length ≤ l.length ∧ p + n ≤ l.length ∧ putL xs = (l.drop p).take n ∧ ∀ x ∈ xs, I64 x := by
  rcases rN_cases l a m with ⟨e, h, he⟩ | ⟨p, n, v, h1, h2, h3, h4, h5, h6, h7⟩
  · exact Or.inl ⟨e, rL_bad h (by omega), he⟩
  · rw [rL_good h2]
    rcases intsF_cases l v (p + n) h5 with ⟨e, i, ie⟩ | ⟨k, xs, i, i0, i1, i2, i3, i4⟩
    · exact Or.inl ⟨e, i, by omega⟩
    · refine Or.inr ⟨p, n + k, xs, h1, by rw [i, Nat.add_assoc], by omega, by omega, by omega, ?_, i4⟩
      unfold putL
      rw [i0, h7, i3, List.take_add, List.drop_drop]
theorem intsF_put : ∀ (xs : List Int) (a r : List UInt8), (∀ x ∈ xs, I64 x) → intsF (a ++ (flatI xs ++ r)) xs.length (a.length : Nat) = (xs, ((a.length + (flatI xs).length : Nat) : Int), 0)
  | [], a, r, _ => by show ([], _, _) = _; simp [flatI]
  | x :: xs, a, r, h => by
    have e : a ++ (flatI (x :: xs) ++ r) = a ++ (putI x ++ (flatI xs ++ r)) := by rw [flatI_cons, List.append_assoc]
    have e2 : a ++ (flatI (x :: xs) ++ r) = (a ++ putI x) ++ (flatI xs ++ r) := by rw [e, List.append_assoc]
    have h1 := rI_put a (flatI xs ++ r) x (h x (by simp))
    rw [← e] at h1
    have ih := intsF_put xs (a ++ putI x) r (fun y hy => h y (List.mem_cons_of_mem _ hy))
    rw [← e2, List.length_append] at ih
    rw [List.length_cons, ← joinF_nil, joinF_step [] h1, ih]
    unfold joinF
    rw [if_pos rfl, flatI_cons, List.length_append, Nat.add_assoc]
    rfl
theorem rL_put (a r : List UInt8) (xs : List Int) (hl : xs.length ≤ 9223372036854775807) (h : ∀ x ∈ xs, I64 x) : rL (a ++ (putL xs ++ r)) (a.length : Nat) (xs.length : Nat) = (xs, ((a.length + (putL xs).length : Nat) : Int), 0) := by
  have e : a ++ (putL xs ++ r) = a ++ (putU xs.length ++ (flatI xs ++ r)) := by unfold putL; rw [List.append_assoc]
  have e2 : a ++ (putL xs ++ r) = (a ++ putU xs.length) ++ (flatI xs ++ r) := by rw [e, List.append_assoc]
  have h1 := rU_put a (flatI xs ++ r) xs.length (by omega)
  rw [← e] at h1
  rw [rL_good (rN_good h1 (by omega))]
  have ih := intsF_put xs (a ++ putU xs.length) r h
  rw [← e2, List.length_append] at ih
  rw [ih]
  unfold putL
  rw [List.length_append, Nat.add_assoc]
theorem intsF_short : ∀ (xs : List Int) (a : List UInt8) (j : Nat), (∀ x ∈ xs, I64 x) → j < (flatI xs).length → intsF (a ++ (flatI xs).take j) xs.length (a.length : Nat) = ([], 0, 4)
  | [], a, j, _, hj => by simp [flatI] at hj
  | x :: xs, a, j, h, hj => by
    by_cases hi : j < (putI x).length
    · have e : (flatI (x :: xs)).take j = (putI x).take j := by rw [flatI_cons, List.take_append_of_le_length (by omega)]
      rw [e, List.length_cons, ← joinF_nil, joinF_bad [] (rI_short a x j hi) (by decide)]
    · have e : (flatI (x :: xs)).take j = putI x ++ (flatI xs).take (j - (putI x).length) := by rw [flatI_cons, List.take_append, List.take_of_length_le (by omega)]
      have h1 := rI_put a ((flatI xs).take (j - (putI x).length)) x (h x (by simp))
      rw [flatI_cons, List.length_append] at hj
      have ih := intsF_short xs (a ++ putI x) (j - (putI x).length) (fun y hy => h y (List.mem_cons_of_mem _ hy)) (by omega)
      rw [List.append_assoc, List.length_append] at ih
      rw [e, List.length_cons, ← joinF_nil, joinF_step [] h1, ih]
      rfl
theorem rL_short (xs : List Int) (i : Nat) (h : i < (putL xs).length) (hl : xs.length ≤ 9223372036854775807) (hx : ∀ x ∈ xs, I64 x) : rL ((putL xs).take i) 0 (xs.length : Nat) = ([], 0, 4) := by
  by_cases hi : i < (putU xs.length).length
  · have e : (putL xs).take i = [] ++ (putU xs.length).take i := by unfold putL; rw [List.take_append_of_le_length (by omega)]; rfl
    rw [e]
    have := rU_short [] xs.length i hi
    exact rL_bad (rN_bad this (by decide)) (by decide)
  · have e : (putL xs).take i = [] ++ (putU xs.length ++ (flatI xs).take (i - (putU xs.length).length)) := by
      unfold putL; rw [List.take_append, List.take_of_length_le (by omega)]; rfl
    rw [e]
    have := rU_put [] ((flatI xs).take (i - (putU xs.length).length)) xs.length (by omega)
    refine (rL_good (rN_good this (by omega))).trans ?_
    unfold putL at h
    rw [List.length_append] at h
    have h2 := intsF_short xs (putU xs.length) (i - (putU xs.length).length) hx (by omega)
    simpa using h2

/-! ### The loop that reads a number -/
/-- What was read ahead (its sum a, its bytes ending at p, the next group's unit u), and what follows. -/
def finF (a u p : Nat) (r : Except Int (Nat × Nat)) : Nat × Int × Int := match r with
  | .error e => (0, 0, e)
  | .ok (v, n) => (a + u * v, ((p + n : Nat) : Int), 0)
theorem finF_start (l : List UInt8) (p : Nat) (h : p ≤ l.length) : rU l p = finF 0 1 p (decF 9 true (l.drop p)) := by
  rw [rU_in l p h]
  unfold finF
  cases decF 9 true (l.drop p) with
  | error e => rfl
  | ok q => simp
theorem finF_more {k : Nat} {f : Bool} {c : UInt8} {r : List UInt8} (a u p : Nat) (h : 128 ≤ c.toNat) : finF a u p (decF (k + 1) f (c :: r)) = finF (a + u * (c.toNat % 128)) (u * 128) (p + 1) (decF k false r) := by
  rw [decF_more h]
  unfold finF
  cases decF k false r with
  | error e => rfl
  | ok q =>
    simp only [Prod.mk.injEq, and_true]
    refine ⟨?_, by omega⟩
    rw [Nat.mul_add, Nat.mul_assoc, Nat.add_assoc]
end Go.Proofs.Yteojfgpinmpocaa
