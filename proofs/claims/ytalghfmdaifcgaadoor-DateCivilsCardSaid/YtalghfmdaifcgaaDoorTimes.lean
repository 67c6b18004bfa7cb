/-
  Plain facts: formatting and parsing of times of day and of durations are inverse to each other. Condition: the ranges that each theorem names.
-/
import Derived.Test.YtalghfmdaifcgaaDoorPlain
namespace Go.Proofs.YtalghfmdaifcgaaDoor
open Go

/-- A number from 0 to 99 in two digits. -/
def two (x : Int) : List UInt8 := [UInt8.ofNat (48 + x.toNat / 10), UInt8.ofNat (48 + x.toNat % 10)]
/-- A number that is not negative in decimal digits. -/
def dec (x : Int) : List UInt8 := Lib.decDigits x.toNat
/-- The text HH:MM:SS. -/
def timeText (t : Int) : List UInt8 := two (t / 3600) ++ [58] ++ two (t % 3600 / 60) ++ [58] ++ two (t % 60)
/-- The text of a duration. -/
def durText (n : Int) : List UInt8 :=
  if 3600 ≤ n then dec (n / 3600) ++ [104] ++ two (n % 3600 / 60) ++ [109] ++ two (n % 60) ++ [115]
  else if 60 ≤ n then dec (n % 3600 / 60) ++ [109] ++ two (n % 60) ++ [115]
  else dec (n % 60) ++ [115]
/-- The parts are those of a time of day. -/
def Parts (h m s : Int) : Prop := 0 ≤ h ∧ h ≤ 48 ∧ 0 ≤ m ∧ m < 60 ∧ 0 ≤ s ∧ s < 60 ∧ h * 3600 + m * 60 + s ≤ 172800
instance (h m s : Int) : Decidable (Parts h m s) := by unfold Parts; infer_instance
/-- The number of the two bytes from place a on. -/
def pairN (l : List UInt8) (a : Nat) : Nat := valN ((l.drop a).take 2)
/-- What a text denotes as a time of day. -/
def timeR (l : List UInt8) : Int × Int :=
  if timeForm l = true then
    if Parts (pairN l 0) (pairN l 3) (pairN l 6) then ((pairN l 0 : Int) * 3600 + (pairN l 3 : Int) * 60 + (pairN l 6 : Int), 0) else (0, 10)
  else (0, 3)

theorem ofNat_toNat (x : Nat) (h : x < 10) : (UInt8.ofNat (48 + x)).toNat = 48 + x := by
  rw [UInt8.toNat_ofNat']; omega
theorem dig_ofNat (x : Nat) (h : x < 10) : dig (UInt8.ofNat (48 + x)) = true := by
  rw [dig_iff, ofNat_toNat x h]; omega
theorem ofNat_back (c : UInt8) (h : dig c = true) : UInt8.ofNat (48 + (c.toNat - 48)) = c := by
  have := (dig_iff c).1 h
  rw [show 48 + (c.toNat - 48) = c.toNat by omega, UInt8.ofNat_toNat]
theorem two_digs (x : Int) (h1 : x < 100) : digs (two x) = true := by
  unfold two digs
  simp only [List.all_cons, List.all_nil, Bool.and_true, Bool.and_eq_true]
  exact ⟨dig_ofNat _ (by omega), dig_ofNat _ (by omega)⟩
theorem two_val (x : Int) (h1 : x < 100) : valN (two x) = x.toNat := by
  unfold two valN
  simp only [List.foldl_cons, List.foldl_nil]
  rw [ofNat_toNat _ (by omega), ofNat_toNat _ (by omega)]
  omega
theorem val_pair (a b : UInt8) : valN [a, b] = (a.toNat - 48) * 10 + (b.toNat - 48) := by
  simp [valN]
theorem two_back (a b : UInt8) (ha : dig a = true) (hb : dig b = true) (x : Int) (hx : x = valN [a, b]) : two x = [a, b] := by
  have h1 := (dig_iff a).1 ha
  have h2 := (dig_iff b).1 hb
  unfold two
  rw [hx, val_pair]
  rw [show (((a.toNat - 48) * 10 + (b.toNat - 48) : Nat) : Int).toNat / 10 = a.toNat - 48 by omega, show (((a.toNat - 48) * 10 + (b.toNat - 48) : Nat) : Int).toNat % 10 = b.toNat - 48 by omega, ofNat_back a ha, ofNat_back b hb]

theorem time_parts (t : Int) (h0 : 0 ≤ t) (h1 : t ≤ 172800) : pairN (timeText t) 0 = (t / 3600).toNat ∧ pairN (timeText t) 3 = (t % 3600 / 60).toNat ∧ pairN (timeText t) 6 = (t % 60).toNat :=
  ⟨two_val (t / 3600) (by omega), two_val (t % 3600 / 60) (by omega), two_val (t % 60) (by omega)⟩
theorem time_form (t : Int) (h0 : 0 ≤ t) (h1 : t ≤ 172800) : timeForm (timeText t) = true := by
  refine form_mk _ rfl fun k c hk => ?_
  have hd : ∀ y : Nat, y < 10 → dig (UInt8.ofNat (48 + y)) = true := fun y hy => dig_ofNat y hy
  match k, hk with
  | 0, hk => obtain rfl := Option.some.inj hk; exact hd _ (by omega)
  | 1, hk => obtain rfl := Option.some.inj hk; exact hd _ (by omega)
  | 2, hk => obtain rfl := Option.some.inj hk; rfl
  | 3, hk => obtain rfl := Option.some.inj hk; exact hd _ (by omega)
  | 4, hk => obtain rfl := Option.some.inj hk; exact hd _ (by omega)
  | 5, hk => obtain rfl := Option.some.inj hk; rfl
  | 6, hk => obtain rfl := Option.some.inj hk; exact hd _ (by omega)
  | 7, hk => obtain rfl := Option.some.inj hk; exact hd _ (by omega)
  | k + 8, hk => cases hk
/-- Parsing inverts formatting. -/
theorem time_there (t : Int) (h0 : 0 ≤ t) (h1 : t ≤ 172800) : timeR (timeText t) = (t, 0) := by
  obtain ⟨e0, e3, e6⟩ := time_parts t h0 h1
  unfold timeR
  rw [if_pos (time_form t h0 h1), e0, e3, e6, if_pos (by unfold Parts; omega)]
  congr 1
  omega
theorem eight (l : List UInt8) (h : l.length = 8) : ∃ a0 a1 a2 a3 a4 a5 a6 a7, l = [a0, a1, a2, a3, a4, a5, a6, a7] := by
  match l, h with
  | [a0, a1, a2, a3, a4, a5, a6, a7], _ => exact ⟨a0, a1, a2, a3, a4, a5, a6, a7, rfl⟩
theorem form_parts (l : List UInt8) (h : timeForm l = true) : ∃ a0 a1 a3 a4 a6 a7, l = [a0, a1] ++ [58] ++ [a3, a4] ++ [58] ++ [a6, a7] ∧ dig a0 = true ∧ dig a1 = true ∧ dig a3 = true ∧ dig a4 = true ∧ dig a6 = true ∧ dig a7 = true := by
  obtain ⟨h8, ho⟩ := form_at l h
  obtain ⟨a0, a1, a2, a3, a4, a5, a6, a7, rfl⟩ := eight l h8
  have c2 : a2 = 58 := UInt8.toNat_inj.1 ((okAt_colon 2 a2 (Or.inl rfl)).1 (ho 2 a2 rfl))
  have c5 : a5 = 58 := UInt8.toNat_inj.1 ((okAt_colon 5 a5 (Or.inr rfl)).1 (ho 5 a5 rfl))
  have d : ∀ (k : Nat) (c : UInt8), okAt k c = true → ¬ (k = 2 ∨ k = 5) → dig c = true := fun k c h hn => by
    unfold okAt at h
    rwa [if_neg hn] at h
  exact ⟨a0, a1, a3, a4, a6, a7, by rw [c2, c5]; rfl, d 0 a0 (ho 0 a0 rfl) (by omega), d 1 a1 (ho 1 a1 rfl) (by omega), d 3 a3 (ho 3 a3 rfl) (by omega), d 4 a4 (ho 4 a4 rfl) (by omega), d 6 a6 (ho 6 a6 rfl) (by omega), d 7 a7 (ho 7 a7 rfl) (by omega)⟩
theorem time_built (a0 a1 a3 a4 a6 a7 : UInt8) (d0 : dig a0 = true) (d1 : dig a1 = true) (d3 : dig a3 = true) (d4 : dig a4 = true) (d6 : dig a6 = true) (d7 : dig a7 = true) (x y z : Int)
    (hx : x = valN [a0, a1]) (hy : y = valN [a3, a4]) (hz : z = valN [a6, a7]) (y1 : y < 60) (z1 : z < 60) : timeText (x * 3600 + y * 60 + z) = [a0, a1] ++ [58] ++ [a3, a4] ++ [58] ++ [a6, a7] := by
  unfold timeText
  rw [two_back a0 a1 d0 d1 _ (by omega), two_back a3 a4 d3 d4 _ (by omega), two_back a6 a7 d6 d7 _ (by omega)]
/-- An accepted text is the text of its result. -/
theorem time_back (l : List UInt8) (h : (timeR l).2 = 0) : 0 ≤ (timeR l).1 ∧ (timeR l).1 ≤ 172800 ∧ timeText (timeR l).1 = l := by
  cases hf : timeForm l with
  | false =>
    have e : timeR l = (0, 3) := by unfold timeR; rw [hf]; rfl
    rw [e] at h
    cases h
  | true =>
    by_cases hp : Parts (pairN l 0) (pairN l 3) (pairN l 6)
    · have e : timeR l = ((pairN l 0 : Int) * 3600 + (pairN l 3 : Int) * 60 + (pairN l 6 : Int), 0) := by unfold timeR; rw [if_pos hf, if_pos hp]
      rw [e]
      obtain ⟨a0, a1, a3, a4, a6, a7, rfl, d0, d1, d3, d4, d6, d7⟩ := form_parts l hf
      obtain ⟨p0, p1, p2, p3, p4, p5, p6⟩ := hp
      refine ⟨?_, p6, time_built a0 a1 a3 a4 a6 a7 d0 d1 d3 d4 d6 d7 _ _ _ rfl rfl rfl p3 p5⟩
      simp only
      omega
    · have e : timeR l = (0, 10) := by unfold timeR; rw [if_pos hf, if_neg hp]
      rw [e] at h
      cases h
end Go.Proofs.YtalghfmdaifcgaaDoor
