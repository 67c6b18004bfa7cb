/-
  Plain facts about routes and modes of transport: the first bad route, the set of the modes, the routes with modes of a set, the text of a set of modes and back: no program. Condition: none beyond each theorem's own hypotheses.
-/
import Derived.Test.YtkpmmojfnhfflaaIdt
import Derived.Test.YtkpmmojfnhfflaaFst
import Derived.Test.YtkpmmojfnhfflaaBit
namespace Go.Proofs.Ytkpmmojfnhfflaa
open Go

/-- A route: its identifier, its mode, whether it takes bicycles. -/
abbrev Rt := List UInt8 × Int × Bool
/-- A mode. -/
def okM (m : Int) : Prop := 0 ≤ m ∧ m < 8
instance (m : Int) : Decidable (okM m) := by unfold okM; infer_instance

/-! ### Check -/
/-- The error of one route behind routes with these identifiers. -/
def badR (seen : List (List UInt8)) (x : Rt) : Int := if validB x.1 = false then 12 else if x.1 ∈ seen then 6 else if okM x.2.1 then 0 else 2
theorem badR_name {seen : List (List UInt8)} {x : Rt} (h : validB x.1 = false) : badR seen x = 12 := by unfold badR; rw [if_pos h]
theorem badR_twice {seen : List (List UInt8)} {x : Rt} (h : validB x.1 = true) (h2 : x.1 ∈ seen) : badR seen x = 6 := by unfold badR; rw [if_neg (by rw [h]; simp), if_pos h2]
theorem badR_mode {seen : List (List UInt8)} {x : Rt} (h : validB x.1 = true) (h2 : x.1 ∉ seen) (h3 : ¬ okM x.2.1) : badR seen x = 2 := by unfold badR; rw [if_neg (by rw [h]; simp), if_neg h2, if_neg h3]
theorem badR_none {seen : List (List UInt8)} {x : Rt} (h : validB x.1 = true) (h2 : x.1 ∉ seen) (h3 : okM x.2.1) : badR seen x = 0 := by unfold badR; rw [if_neg (by rw [h]; simp), if_neg h2, if_pos h3]
theorem badR_valid {seen : List (List UInt8)} {x : Rt} (h : badR seen x = 0) : validB x.1 = true := by
  cases hv : validB x.1 with
  | true => rfl
  | false => rw [badR_name hv] at h; simp at h
theorem valid_le {l : List UInt8} (h : validB l = true) : l.length ≤ 32 := ((valid_iff l).1 h).1.2
/-- The identifier. -/
def idR (x : Rt) : List UInt8 := x.1
/-- What Check answers. -/
def chkR (l : List Rt) : Int × Int := if 64 < l.length then (0, 5) else fbF badR idR [] 0 l
theorem chkR_many {l : List Rt} (h : 64 < l.length) : chkR l = (0, 5) := by unfold chkR; rw [if_pos h]
theorem chkR_start {l : List Rt} (h : l.length ≤ 64) : chkR l = fbF badR idR ((l.take 0).map idR) 0 (l.drop 0) := by unfold chkR; rw [if_neg (by omega)]; rfl
/-- Whether a route has this identifier. -/
def isR (id : List UInt8) (x : Rt) : Bool := decide (x.1 = id)
theorem isR_yes {id : List UInt8} {x : Rt} (h : x.1 = id) : isR id x = true := decide_eq_true h
theorem isR_no {id : List UInt8} {x : Rt} (h : x.1 ≠ id) : isR id x = false := decide_eq_false h

/-! ### The names -/
def nmB : List UInt8 := [98, 117, 115]
def nmL : List (List UInt8) := [nmB, [116, 114, 97, 109], [109, 101, 116, 114, 111], [114, 97, 105, 108], [102, 101, 114, 114, 121], [99, 111, 97, 99, 104], [99, 97, 98, 108, 101], [102, 117, 110, 105, 99, 117, 108, 97, 114]]
/-- The name of a mode. -/
def nmR (m : Nat) : List UInt8 := nmL.getD m []
/-- Whether this is the name. -/
def isN (s x : List UInt8) : Bool := decide (x = s)
/-- The mode with a name, or -1. -/
def modeR (s : List UInt8) : Int := fdT (isN s) nmL
theorem modeR_nm : ∀ m : Nat, m < 8 → modeR (nmR m) = (m : Int) := by decide
theorem modeR_range (s : List UInt8) : modeR s = -1 ∨ (0 ≤ modeR s ∧ modeR s < 8) := fd_range (isN s) nmL
theorem modeR_is {s : List UInt8} (h : modeR s ≠ -1) : s = nmR (modeR s).toNat := by
  obtain ⟨j, x, h1, h2, h3⟩ := fd_mem (p := isN s) (l := nmL) h
  have e : modeR s = (j : Int) := h3
  rw [e, Int.toNat_natCast]
  unfold nmR
  rw [List.getD_eq_getElem?_getD, h1]
  exact (of_decide_eq_true h2).symm
theorem nmR_at {m : Nat} (h : m < 8) : nmL[m]? = some (nmR m) := by
  unfold nmR
  have h8 : m < nmL.length := h
  rw [List.getD_eq_getElem?_getD, List.getElem?_eq_getElem h8]
  rfl
theorem nmR_len : ∀ m : Nat, m < 8 → 1 ≤ (nmR m).length ∧ (nmR m).length ≤ 9 := by decide

/-! ### The modes of routes, and the routes with modes -/
/-- The modes from here on, behind a set. -/
def modF (s : Nat) : List Rt → Nat
  | [] => s &&& 255
  | x :: r => modF (s ||| one x.2.1) r
/-- The set of the modes. -/
def modR (l : List Rt) : Nat := modF 0 l
theorem modF_next {q s : Nat} {l : List Rt} {k : Nat} {x : Rt} (hr : q = modF s (l.drop k)) (h : l[k]? = some x) : q = modF (s ||| one x.2.1) (l.drop (k + 1)) := by
  rw [hr, drop_at l k x h]
  rfl
theorem modF_done {q s : Nat} {l : List Rt} {k : Nat} (hr : q = modF s (l.drop k)) (h : l.length ≤ k) : q = s &&& 255 := by
  rw [hr, List.drop_of_length_le h]
  rfl
theorem modF_bit : ∀ (l : List Rt) (s : Nat) (j : Nat), j < 64 → (modF s l).testBit j = (decide (j < 8) && (s.testBit j || l.any fun x => decide (x.2.1 = (j : Int))))
  | [], s, j, _ => by
    unfold modF
    rw [show (255 : Nat) = 2 ^ 8 - 1 by rfl, Nat.testBit_and, Nat.testBit_two_pow_sub_one, List.any_nil, Bool.or_false, Bool.and_comm]
  | x :: r, s, j, hj => by
    unfold modF
    rw [modF_bit r _ j hj, Nat.testBit_or, one_bit x.2.1 j hj, List.any_cons, Bool.or_assoc]
theorem modR_bit (l : List Rt) (j : Nat) (h : j < 8) : (modR l).testBit j = l.any fun x => decide (x.2.1 = (j : Int)) := by
  unfold modR
  rw [modF_bit l 0 j (by omega), decide_eq_true h, Nat.zero_testBit, Bool.true_and, Bool.false_or]
theorem modF_lt : ∀ (l : List Rt) (s : Nat), modF s l < 256
  | [], s => Nat.lt_of_le_of_lt (Nat.and_le_right (n := s) (m := 255)) (by decide)
  | x :: r, s => modF_lt r _
theorem modR_lt (l : List Rt) : modR l < 256 := modF_lt l 0
/-- An int as a word. -/
def wordR (n : Int) : Nat := (n % 18446744073709551616).toNat
theorem word_lt (n : Int) : W64 (wordR n) := by unfold wordR W64; omega
theorem word_cast (n : Int) : ((wordR n : Nat) : Int) = n % 18446744073709551616 := by unfold wordR; omega
theorem word_of {n : Int} (h0 : 0 ≤ n) (h1 : n < 18446744073709551616) : wordR n = n.toNat := by unfold wordR; omega
/-- Whether a route has one of the modes. -/
def hasR (n : Int) (x : Rt) : Bool := decide (okM x.2.1) && (decide (n = 0) || (wordR n).testBit x.2.1.toNat)
theorem hasR_no {n : Int} {x : Rt} (h : ¬ okM x.2.1) : hasR n x = false := by unfold hasR; rw [decide_eq_false h]; rfl
theorem hasR_zero {x : Rt} (h : okM x.2.1) : hasR 0 x = true := by unfold hasR; rw [decide_eq_true h]; rfl
theorem hasR_bit {n : Int} {x : Rt} (h : okM x.2.1) (h0 : n ≠ 0) : hasR n x = (wordR n).testBit x.2.1.toNat := by unfold hasR; rw [decide_eq_true h, decide_eq_false h0, Bool.true_and, Bool.false_or]
/-- The indices of the routes with one of the modes. -/
def withR (n : Int) (l : List Rt) : List Int := ixs (hasR n) l
theorem hasR_all {n : Int} {x : Rt} (h : hasR n x = true) : hasR 0 x = true := by
  unfold hasR at h ⊢
  rw [Bool.and_eq_true] at h
  rw [h.1]
  rfl
theorem flip_bit {n : Int} (h0 : 1 ≤ n) (h1 : n ≤ 254) {m : Nat} (hm : m < 8) : (wordR (255 - n)).testBit m = !(wordR n).testBit m := by
  rw [word_of (n := 255 - n) (by omega) (by omega), word_of (n := n) (by omega) (by omega)]
  obtain ⟨k, rfl⟩ := Int.eq_ofNat_of_zero_le (show 0 ≤ n by omega)
  rw [Int.toNat_natCast, show ((255 : Int) - (k : Int)).toNat = 2 ^ 8 - (k + 1) by omega, Nat.testBit_two_pow_sub_succ (by omega), decide_eq_true hm, Bool.true_and]
theorem hasR_flip {n : Int} (h0 : 1 ≤ n) (h1 : n ≤ 254) {x : Rt} (h : hasR 0 x = true) : hasR (255 - n) x = !hasR n x := by
  have hm : okM x.2.1 := by
    unfold hasR at h
    rw [Bool.and_eq_true] at h
    exact of_decide_eq_true h.1
  rw [hasR_bit hm (by omega), hasR_bit hm (by omega)]
  unfold okM at hm
  exact flip_bit h0 h1 (by omega)
/-- Whether a route at an index has one of the modes. -/
def atR (n : Int) (l : List Rt) : Int → Bool := hasAt (hasR n) l
theorem with_part (n : Int) (l : List Rt) : withR n l = (withR 0 l).filter (atR n l) := ix_part (fun _ h => hasR_all h) l
theorem with_flip {n : Int} (h0 : 1 ≤ n) (h1 : n ≤ 254) (l : List Rt) : withR (255 - n) l = (withR 0 l).filter fun i => !atR n l i := by
  rw [with_part (255 - n) l]
  refine List.filter_congr fun i hi => ?_
  have h2 : i ∈ (withR 0 l).filter (hasAt (hasR 0) l) := by
    have : withR 0 l = (withR 0 l).filter (hasAt (hasR 0) l) := ix_part (fun _ h => h) l
    rw [← this]
    exact hi
  have h3 := (List.mem_filter.1 h2).2
  unfold atR
  unfold hasAt at h3 ⊢
  cases hx : l[i.toNat]? with
  | none => rw [hx] at h3; cases h3
  | some x =>
    rw [hx] at h3
    exact hasR_flip h0 h1 h3
theorem with_le (n : Int) (l : List Rt) : (withR n l).length ≤ l.length := ix_le _ l
theorem with_sum {n : Int} (h0 : 1 ≤ n) (h1 : n ≤ 254) (l : List Rt) : (withR n l).length + (withR (255 - n) l).length = (withR 0 l).length := by
  rw [with_part n l, with_flip h0 h1 l]
  exact num_sum _ _

/-! ### Texts -/
/-- The text of the modes from this one on, behind a text. -/
def catR (a : List UInt8) (m : Nat) : List UInt8 := if a = [] then nmR m else a ++ 43 :: nmR m
def txF (n : Nat) : Nat → List UInt8
  | 0 => []
  | m + 1 => if n.testBit m then catR (txF n m) m else txF n m
theorem txF_yes {n m : Nat} (h : n.testBit m = true) : txF n (m + 1) = catR (txF n m) m := by
  conv => lhs; unfold txF
  rw [if_pos h]
theorem txF_no {n m : Nat} (h : n.testBit m = false) : txF n (m + 1) = txF n m := by
  conv => lhs; unfold txF
  rw [if_neg (by rw [h]; simp)]
theorem txF_le (n : Nat) : ∀ m : Nat, m ≤ 8 → (txF n m).length ≤ 10 * m
  | 0, _ => Nat.le_refl _
  | m + 1, h => by
    have ih := txF_le n m (by omega)
    have := (nmR_len m (by omega)).2
    unfold txF catR
    split
    · split
      · omega
      · rw [List.length_append, List.length_cons]; omega
    · omega
def noneR : List UInt8 := [110, 111, 110, 101]
/-- The text of a set of modes. -/
def textR (n : Nat) : List UInt8 := if txF n 8 = [] then noneR else txF n 8
theorem textR_zero : textR 0 = noneR := rfl
theorem textR_none {n : Nat} (h : txF n 8 = []) : textR n = noneR := by unfold textR; rw [if_pos h]
theorem textR_some {n : Nat} (h : txF n 8 ≠ []) : textR n = txF n 8 := by unfold textR; rw [if_neg h]
theorem txF_pos : ∀ n : Nat, n < 256 → n ≠ 0 → txF n 8 ≠ [] := by decide +kernel
theorem textR_le (n : Nat) : (textR n).length ≤ 100 := by
  have := txF_le n 8 (by omega)
  unfold textR
  split
  · decide
  · omega
theorem textR_ne : ∀ n : Nat, n < 256 → textR n ≠ [] := by decide +kernel
/-- What FormatModes answers: the text and the error. -/
def fmtR (n : Int) : List UInt8 × Int := if n < 0 ∨ 255 < n then ([], 2) else (textR n.toNat, 0)
theorem fmtR_far {n : Int} (h : n < 0 ∨ 255 < n) : fmtR n = ([], 2) := by unfold fmtR; rw [if_pos h]
theorem fmtR_in {n : Nat} (h : n < 256) : fmtR (n : Int) = (textR n, 0) := by unfold fmtR; rw [if_neg (by omega), Int.toNat_natCast]

/-! ### Texts taken apart -/
/-- A name cut off: the set with its mode, if it is a name of a later mode. -/
def cutR (s : Nat) (c : List UInt8) : Option Nat := if modeR c = -1 then none else if s < 2 ^ (modeR c).toNat then some (s + 2 ^ (modeR c).toNat) else none
theorem cutR_bad {s : Nat} {c : List UInt8} (h : modeR c = -1) : cutR s c = none := by unfold cutR; rw [if_pos h]
theorem cutR_order {s m : Nat} {c : List UInt8} (h : modeR c = (m : Int)) (h2 : ¬ s < 2 ^ m) : cutR s c = none := by
  unfold cutR
  rw [h, Int.toNat_natCast, if_neg (by omega), if_neg h2]
theorem cutR_good {s m : Nat} {c : List UInt8} (h : modeR c = (m : Int)) (h2 : s < 2 ^ m) : cutR s c = some (s + 2 ^ m) := by
  unfold cutR
  rw [h, Int.toNat_natCast, if_neg (by omega), if_pos h2]
/-- The set with the text c ++ r behind the set s: c is the name so far. -/
def prsF (s : Nat) (c : List UInt8) : List UInt8 → Option Nat
  | [] => cutR s c
  | x :: r => if x = 43 then (match cutR s c with | some t => prsF t [] r | none => none) else prsF s (c ++ [x]) r
/-- The set with this text, or -1. -/
def prsR (t : List UInt8) : Int := if t = noneR then 0 else match prsF 0 [] t with | some n => (n : Int) | none => -1
/-- The text of a set with a plus sign behind it, or nothing. -/
def preR (s : Nat) : List UInt8 := if s = 0 then [] else textR s ++ [43]
theorem pre_cut : ∀ s : Nat, s < 256 → ∀ m : Nat, m < 8 → s < 2 ^ m → textR (s + 2 ^ m) = preR s ++ nmR m := by decide +kernel
theorem cutR_is {s t : Nat} {c : List UInt8} (hs : s < 256) (h : cutR s c = some t) : t ≠ 0 ∧ t < 256 ∧ textR t = preR s ++ c := by
  unfold cutR at h
  by_cases h1 : modeR c = -1
  · rw [if_pos h1] at h; cases h
  rw [if_neg h1] at h
  have hr := modeR_range c
  by_cases h2 : s < 2 ^ (modeR c).toNat
  · rw [if_pos h2] at h
    obtain rfl := Option.some.inj h
    have hm : (modeR c).toNat < 8 := by omega
    have hp : 2 ^ (modeR c).toNat ≤ 2 ^ 7 := Nat.pow_le_pow_right (by decide) (by omega)
    have hz := Nat.two_pow_pos (modeR c).toNat
    refine ⟨by omega, by omega, ?_⟩
    rw [pre_cut s hs _ hm h2]
    congr 1
    exact (modeR_is h1).symm
  · rw [if_neg h2] at h; cases h
theorem prsF_is : ∀ (r : List UInt8) (s n : Nat) (c : List UInt8), s < 256 → prsF s c r = some n → n ≠ 0 ∧ n < 256 ∧ textR n = preR s ++ c ++ r
  | [], s, n, c, hs, h => by
    rw [List.append_nil]
    exact cutR_is hs h
  | x :: r, s, n, c, hs, h => by
    unfold prsF at h
    by_cases hx : x = 43
    · rw [if_pos hx] at h
      cases hc : cutR s c with
      | none => rw [hc] at h; cases h
      | some t =>
        rw [hc] at h
        obtain ⟨h1, h2, h3⟩ := cutR_is hs hc
        obtain ⟨k1, k2, k3⟩ := prsF_is r t n [] h2 h
        refine ⟨k1, k2, ?_⟩
        rw [k3, ← h3, hx]
        unfold preR
        rw [if_neg h1]
        simp
    · rw [if_neg hx] at h
      obtain ⟨k1, k2, k3⟩ := prsF_is r s n (c ++ [x]) hs h
      refine ⟨k1, k2, ?_⟩
      rw [k3]
      simp
theorem prsR_text : ∀ n : Nat, n < 256 → prsR (textR n) = (n : Int) := by decide +kernel
theorem prsR_three (t : List UInt8) : prsR t = -1 ∨ ∃ n : Nat, n < 256 ∧ prsR t = (n : Int) ∧ textR n = t := by
  unfold prsR
  split
  · next h => exact .inr ⟨0, by decide, rfl, by rw [h]; rfl⟩
  · cases hp : prsF 0 [] t with
    | none => exact .inl rfl
    | some n =>
      obtain ⟨h1, h2, h3⟩ := prsF_is t 0 n [] (by decide) hp
      refine .inr ⟨n, h2, rfl, ?_⟩
      rw [h3]
      rfl
theorem prsR_first {t : List UInt8} {n : Nat} (h : n < 256) (ht : textR n = t) : prsR t = (n : Int) := by rw [← ht, prsR_text n h]
theorem prsR_none {t : List UInt8} (h : ∀ n : Nat, n < 256 → textR n ≠ t) : prsR t = -1 := by
  rcases prsR_three t with h1 | ⟨n, h2, -, h3⟩
  · exact h1
  · exact absurd h3 (h n h2)
/-- What ParseModes answers: the set and the error. -/
def ansR (n : Int) : Int × Int := if n = -1 then (0, 3) else (n, 0)
theorem ansR_bad : ansR (-1) = (0, 3) := rfl
theorem ansR_good (n : Nat) : ansR (n : Int) = ((n : Int), 0) := by unfold ansR; rw [if_neg (by omega)]
/-- The scan as the code goes: an Option as an int. -/
def optR (o : Option Nat) : Int := match o with | some n => (n : Int) | none => -1
theorem prsR_none' : prsR noneR = 0 := rfl
theorem prsR_scan {t : List UInt8} (h : t ≠ noneR) : prsR t = optR (prsF 0 [] (t.drop 0)) := by unfold prsR; rw [if_neg h]; rfl
theorem scan_end {q : Int} {s k : Nat} {c t : List UInt8} (hr : q = optR (prsF s c (t.drop k))) (h : t.length ≤ k) : q = optR (cutR s c) := by
  rw [hr, List.drop_of_length_le h]
  rfl
theorem scan_byte {q : Int} {s k : Nat} {c t : List UInt8} {x : UInt8} (hr : q = optR (prsF s c (t.drop k))) (h : t[k]? = some x) (hx : x ≠ 43) : q = optR (prsF s (c ++ [x]) (t.drop (k + 1))) := by
  rw [hr, drop_at t k x h]
  conv => lhs; unfold prsF
  rw [if_neg hx]
theorem scan_cut {q : Int} {s k u : Nat} {c t : List UInt8} (hr : q = optR (prsF s c (t.drop k))) (h : t[k]? = some 43) (hc : cutR s c = some u) : q = optR (prsF u [] (t.drop (k + 1))) := by
  rw [hr, drop_at t k 43 h]
  conv => lhs; unfold prsF
  rw [if_pos rfl, hc]
theorem scan_bad {q : Int} {s k : Nat} {c t : List UInt8} (hr : q = optR (prsF s c (t.drop k))) (h : t[k]? = some 43) (hc : cutR s c = none) : q = -1 := by
  rw [hr, drop_at t k 43 h]
  unfold prsF
  rw [if_pos rfl, hc]
  rfl
/-- A set has only modes below m. -/
theorem low_iff {s : Nat} {m : Nat} (hs : s < 256) : s < 2 ^ m ↔ ∀ j, j < 64 → s.testBit j = true → j < m := by
  constructor
  · intro h j _ hj
    rcases Nat.lt_or_ge j m with h2 | h2
    · exact h2
    · rw [Nat.testBit_lt_two_pow (Nat.lt_of_lt_of_le h (Nat.pow_le_pow_right (by decide) h2))] at hj
      cases hj
  · intro h
    apply Nat.lt_pow_two_of_testBit
    intro j hj
    rcases Nat.lt_or_ge j 64 with h2 | h2
    · cases hb : s.testBit j with
      | false => rfl
      | true => have := h j h2 hb; omega
    · exact Nat.testBit_lt_two_pow (Nat.lt_of_lt_of_le hs (Nat.le_trans (by decide : 256 ≤ 2 ^ 64) (Nat.pow_le_pow_right (by decide) h2)))
theorem put_low {s m : Nat} (h : s < 2 ^ m) : s ||| 2 ^ m = s + 2 ^ m := by
  rw [bit_add (Nat.testBit_lt_two_pow h)]

/-! ### The names joined -/
theorem elems_text : ∀ n : Nat, n < 256 → n ≠ 0 → List.intercalate [43] ((elems n).map nmR) = textR n := by decide +kernel
theorem elems_mode : ∀ n : Nat, n < 256 → ∀ m ∈ elems n, m < 8 := by decide +kernel
end Go.Proofs.Ytkpmmojfnhfflaa
