/-
  Plain facts about the forms of strings: quoting, and reading what was quoted: no program. Condition: none beyond each theorem's own hypotheses.
-/
import Derived.Test.YtpdekihfgglmkaaDoorDigits
namespace Go.Proofs.YtpdekihfgglmkaaDoor
open Go

/-- A control byte. -/
def ctl (c : UInt8) : Bool := decide (c.toNat < 32 ∨ c.toNat = 127)
/-- A byte that a plain string may hold. -/
def pln (c : UInt8) : Bool := !(c == 44 || c == 34 || c == 92 || ctl c)
/-- A plain string. -/
def plainB (l : List UInt8) : Bool := l.all pln && !l.isEmpty && l.head? != some 32 && l.getLast? != some 32
/-- A hexadecimal digit. -/
def hexD (n : Nat) : UInt8 := UInt8.ofNat (if n < 10 then 48 + n else 87 + n)
/-- What stands for a byte within double quotes. -/
def esc (c : UInt8) : List UInt8 := if ctl c then [92, 120, hexD (c.toNat / 16), hexD (c.toNat % 16)] else if c == 34 || c == 92 then [92, c] else [c]
/-- What stands within the double quotes. -/
def inner (l : List UInt8) : List UInt8 := l.flatMap esc
/-- The form of a string. -/
def quoteL (l : List UInt8) : List UInt8 := if plainB l then l else 34 :: (inner l ++ [34])
/-- The value of a hexadecimal digit; 16 of another byte. -/
def unhex (c : UInt8) : Nat := if 48 ≤ c.toNat ∧ c.toNat ≤ 57 then c.toNat - 48 else if 97 ≤ c.toNat ∧ c.toNat ≤ 102 then c.toNat - 87 else 16

theorem ctl_iff (c : UInt8) : ctl c = true ↔ c.toNat < 32 ∨ c.toNat = 127 := by unfold ctl; exact decide_eq_true_iff
theorem hexD_nat (n : Nat) (h : n < 16) : (hexD n).toNat = if n < 10 then 48 + n else 87 + n := by
  unfold hexD
  rw [UInt8.toNat_ofNat']
  split <;> omega
theorem unhex_hexD (n : Nat) (h : n < 16) : unhex (hexD n) = n := by
  unfold unhex
  rw [hexD_nat n h]
  by_cases h1 : n < 10
  · rw [if_pos h1, if_pos (by omega)]; omega
  · rw [if_neg h1, if_neg (by omega), if_pos (by omega)]; omega
theorem unhex_lt {c : UInt8} (h : unhex c < 16) : hexD (unhex c) = c := by
  apply UInt8.toNat_inj.1
  rw [hexD_nat _ h]
  unfold unhex at *
  split at h
  · next hc => rw [if_pos hc, if_pos (by omega)]; omega
  · next hc =>
    split at h
    · next hd => rw [if_neg hc, if_pos hd, if_neg (by omega)]; omega
    · omega

/-- The byte of two hexadecimal digits' values. -/
def byteOf (a b : Nat) : UInt8 := UInt8.ofNat (16 * a + b)
/-- What the inner part of a form begins with: the byte, and how many bytes it takes; none: no byte stands so. -/
def oneL : List UInt8 → UInt8 × Nat
  | [] => (0, 0)
  | c :: r =>
    if c ≠ 92 then (c, 1)
    else match r with
      | d :: q =>
        if d = 34 ∨ d = 92 then (d, 2)
        else match q with
          | x :: y :: _ => if d = 120 ∧ unhex x < 16 ∧ unhex y < 16 then (byteOf (unhex x) (unhex y), 4) else (0, 0)
          | _ => (0, 0)
      | [] => (0, 0)
theorem oneL_le (l : List UInt8) : (oneL l).2 ≤ l.length := by
  unfold oneL
  split
  · simp
  · split
    · simp
    · split
      · split
        · simp
        · split
          · split <;> simp
          · simp
      · simp
/-- The string that the inner part of a form stands for, read from its left end. -/
def readL : Nat → List UInt8 → Option (List UInt8)
  | 0, _ => none
  | _ + 1, [] => some []
  | f + 1, c :: r => if (oneL (c :: r)).2 = 0 then none else (readL f ((c :: r).drop (oneL (c :: r)).2)).map ((oneL (c :: r)).1 :: ·)
theorem oneL_esc (c : UInt8) (r : List UInt8) : oneL (esc c ++ r) = (c, (esc c).length) := by
  have hc := c.toNat_lt
  unfold esc
  split
  · next hctl =>
    have e1 : unhex (hexD (c.toNat / 16)) = c.toNat / 16 := unhex_hexD _ (by omega)
    have e2 : unhex (hexD (c.toNat % 16)) = c.toNat % 16 := unhex_hexD _ (by omega)
    simp [oneL, e1, e2]
    rw [if_pos ⟨by omega, by omega⟩]
    unfold byteOf
    rw [show 16 * (c.toNat / 16) + c.toNat % 16 = c.toNat by omega, UInt8.ofNat_toNat]
  · split
    · next h2 =>
      simp at h2
      simp [oneL, h2]
    · next h2 =>
      simp at h2
      simp [oneL, h2]
theorem esc_ne (c : UInt8) : 1 ≤ (esc c).length := by
  unfold esc
  split
  · simp
  · split <;> simp
theorem read_inner : ∀ (l : List UInt8) (f : Nat), (inner l).length < f → readL f (inner l) = some l
  | [], f + 1, _ => rfl
  | c :: l, f + 1, h => by
    have hn := esc_ne c
    have e : inner (c :: l) = esc c ++ inner l := by simp [inner]
    rw [e] at h ⊢
    rw [List.length_append] at h
    have h1 := oneL_esc c (inner l)
    cases hx : esc c ++ inner l with
    | nil => simp at hx; rw [hx.1] at hn; simp at hn
    | cons d q =>
      rw [readL, ← hx, h1, if_neg (by omega)]
      simp only []
      rw [List.drop_left' rfl, read_inner l f (by omega)]
      rfl
/-- The string whose form this is. -/
def unq (s : List UInt8) : Option (List UInt8) :=
  if plainB s then some s
  else if 2 ≤ s.length ∧ s.head? = some 34 ∧ s.getLast? = some 34 then
    (readL (s.length + 1) ((s.drop 1).take (s.length - 2))).bind fun t => if quoteL t = s then some t else none
  else none
theorem unq_quote (t : List UInt8) : unq (quoteL t) = some t := by
  unfold unq quoteL
  by_cases h : plainB t = true
  · rw [if_pos h, if_pos h]
  · rw [if_neg h]
    have hp : plainB (34 :: (inner t ++ [34])) = false := by simp [plainB, pln]
    rw [hp, if_neg (by decide)]
    have hl : (34 :: (inner t ++ [34])).length = (inner t).length + 2 := by simp
    rw [if_pos ⟨by omega, rfl, by rw [← List.cons_append, List.getLast?_concat]⟩, hl]
    rw [show ((34 :: (inner t ++ [34])).drop 1).take ((inner t).length + 2 - 2) = inner t by simp]
    rw [read_inner t _ (by omega)]
    simp [h]
theorem quote_unq (s t : List UInt8) (h : unq s = some t) : quoteL t = s := by
  unfold unq at h
  split at h
  · next hp =>
    obtain rfl := Option.some.inj h
    unfold quoteL
    rw [if_pos hp]
  · split at h
    · cases hr : readL (s.length + 1) ((s.drop 1).take (s.length - 2)) with
      | none => rw [hr] at h; cases h
      | some u =>
        rw [hr] at h
        simp at h
        exact h.2 ▸ h.1
    · cases h
theorem unq_iff (s t : List UInt8) : unq s = some t ↔ quoteL t = s := ⟨quote_unq s t, fun h => h ▸ unq_quote t⟩
/-- No control byte in a form. -/
theorem esc_ctl (c : UInt8) : (esc c).all (fun b => !ctl b) = true := by
  have hc := c.toNat_lt
  have hx : ∀ n, n < 16 → ctl (hexD n) = false := by
    intro n h
    have := hexD_nat n h
    unfold ctl
    rw [this]
    split <;> simp <;> omega
  have h92 : ctl 92 = false := rfl
  have h120 : ctl 120 = false := rfl
  unfold esc
  split
  · simp [hx _ (show c.toNat / 16 < 16 by omega), hx _ (show c.toNat % 16 < 16 by omega), h92, h120]
  · next h => split <;> simp [h, h92]
theorem quote_ctl (l : List UInt8) : (quoteL l).all (fun b => !ctl b) = true := by
  unfold quoteL
  split
  · next h =>
    unfold plainB at h
    rw [Bool.and_eq_true, Bool.and_eq_true, Bool.and_eq_true] at h
    have h := h.1.1.1
    rw [List.all_eq_true] at *
    intro c hc
    have := h c hc
    unfold pln at this
    simp at this
    simp [this]
  · rw [List.all_cons, List.all_append]
    have : (inner l).all (fun b => !ctl b) = true := by
      unfold inner
      rw [List.all_flatMap, List.all_eq_true]
      exact fun c _ => esc_ctl c
    rw [this]
    simp [ctl]
end Go.Proofs.YtpdekihfgglmkaaDoor
